/-
  The law TreeHolds walked.
-/
import Derived.Test.YtfeemeddhhgigaaTrRa
namespace Go.Proofs.Ytfeemeddhhgigaa
open Go.RowKit

section
variable {P : Program} {ops : Array Oper} {rest : List Oper} {a : Act} {w : World} {Q : Exit → Act → World → Prop} {D : Option Tmp} {T : TypeId} {ps : String} {af : Array Edge}
theorem make_rows (t e : TypeId) (x y : Operand) (z : Value) (bytes s c : Nat) (hx : a.eval x = .int .i64 (c : Int)) (hy : a.eval y = .int .i64 (c : Int)) (hu : P.underlying t = some (.slice e))
    (hi : (P.info? e).map (fun i => (i.zero, i.size, i.bytes)) = some (some z, s, bytes)) (hb : bytes * c ≤ 281474976710656) (hc : c ≤ 9223372036854775807)
    (h : ∀ w', Hid (w'.heap[w.heap.size]? = some (.cells (madeCells z.cells (c * s)) e (0, 0))) → Below w.heap.size w w' → wpList P ops Q rest (a.put D (.slice (some ⟨w.heap.size, 0, none⟩) c c)) w') :
    wpList P ops Q ({ dst := D, op := .makeSlice t x y, type := T, pos := ps, after := af, guard := none } :: rest) a w :=
  wpList_plain rfl fun K hK => by
    obtain ⟨i, hi1, hi2, hi3, hi4⟩ := info_parts hi
    have hrun := run_make (P := P) w t e i z hu hi1 hi2 .i64 .i64 c c (by omega) (by omega) (by rw [hi4]; omega) (by omega)
    rw [hi3] at hrun
    unfold Oper.wp execOp
    simp only [hx, hy, hrun, Sem.run_bind, Sem.run_pure, Result.andThen_ok, Int.toNat_natCast]
    exact hK _ _ (h _ (heap_alloc_new w _) ((Below.refl _ w).alloc (Nat.le_refl _) _))
end
/-- A row of sixty-four refs, known whole. -/
def HvAt (y : World) (g : Nat) (f : Nat → Pg.Rf) : Prop := y.heap[g]? = some (.cells (Tr.flat (fun k => cl (f k)) 64).toArray 33 (0, 0))
theorem made_flat (Z : Array Value) (hZ : Z.size = 33) : madeCells Z (64 * 33) = (Tr.flat (fun _ : Nat => Z.toList) 64).toArray := by
  apply Array.ext'
  apply List.ext_getElem?
  intro q
  have hs : ∀ i : Nat, i < 64 → ((fun _ : Nat => Z.toList) i).length = 33 := fun _ _ => by show Z.toList.length = 33; rw [Array.length_toList, hZ]
  have hl := Tr.flat_length (fun _ : Nat => Z.toList) 33 64 hs
  show (madeCells Z (64 * 33)).toList[q]? = (Tr.flat (fun _ : Nat => Z.toList) 64)[q]?
  by_cases hq : q < 64 * 33
  · have h2 := Tr.flat_get (fun _ : Nat => Z.toList) 33 64 hs (q / 33) (q % 33) (by omega) (by omega)
    rw [show q / 33 * 33 + q % 33 = q by omega] at h2
    have hm : q % 33 < Z.size := by omega
    rw [h2]
    have e : (madeCells Z (64 * 33))[q]? = some Z[q % 33]! := by
      unfold madeCells
      rw [Array.getElem?_map, hZ]
      simp [hq]
    have e2 : (madeCells Z (64 * 33)).toList[q]? = some Z[q % 33]! := by simpa using e
    rw [e2, getElem!_pos Z (q % 33) hm]
    simp [hm]
  · rw [List.getElem?_eq_none (by rw [Array.length_toList, size_madeCells]; omega), List.getElem?_eq_none (by omega)]
theorem made64 : madeCells (Value.agg (rfA Pg.zr)).cells (64 * 33) = (Tr.flat (fun _ => cl Pg.zr) 64).toArray := made_flat (rfA Pg.zr) (rfa_size pg_zr)
theorem HvAt.rng {y : World} {g : Nat} {f : Nat → Pg.Rf} (h : HvAt y g f) (hf : ∀ k, Pg.Ok (f k)) (k : Nat) (hk : k < 64) : y.rangeAt g (k * 33) (rfA (f k)).toList := fun j v hv => by
  have hj : j < 33 := by
    have := (List.getElem?_eq_some_iff.1 hv).1
    rw [Array.length_toList, rfa_size (hf k)] at this
    exact this
  rw [cell_of_row y g _ _ _ _ h]
  have := Tr.flat_get (fun k => cl (f k)) 33 64 (fun k _ => cl_len (hf k)) k j hk hj
  have hv' : (cl (f k))[j]? = some v := hv
  rw [hv'] at this
  simpa using this
theorem HvAt.put {y : World} {g : Nat} {f : Nat → Pg.Rf} (hf : ∀ k, Pg.Ok (f k)) (k : Nat) (hk : k < 64) (r : Pg.Rf) (hr : Pg.Ok r) (A : Array Value) (hA : rfA r = A)
    (hg : y.heap[g]? = some (.cells ((Tr.flat (fun k => cl (f k)) 64).toArray.toList.take (k * 33) ++ A.toList ++ (Tr.flat (fun k => cl (f k)) 64).toArray.toList.drop (k * 33 + A.size)).toArray 33 (0, 0))) : HvAt y g (Tr.up f k r) := by
  subst hA
  rw [rfa_size hr] at hg
  have e := Tr.flat_set (fun k => cl (f k)) 33 64 k (cl r) (fun k _ => cl_len (hf k)) hk
  have e2 : Tr.flat (Tr.up (fun k => cl (f k)) k (cl r)) 64 = Tr.flat (fun j => cl (Tr.up f k r j)) 64 := by rw [Tr.comp_up cl f k r]
  show y.heap[g]? = _
  rw [hg, ← e2, ← e]
  rfl
theorem Try.zeroOp : (Try.prog.info? 38).map (fun i => (i.zero, i.size)) = some (some (.agg (OpA Tr.o0)), 299) := by kernel_rfl
theorem Tr.cnt_step (t : Tr.T) (k : Nat) : Tr.cntb t (k + 1) = Tr.cntb t k + if 0 < (t.b k).1 then 1 else 0 := rfl
set_option maxHeartbeats 16000000 in
set_option maxRecDepth 100000 in
theorem holds_any (X : List Tr.O) (p : Option Addr) (n c : Nat) (hn : X.length = n) (w : World) (hX : OpS w p X) :
    Calls Try.prog 5 #[.slice p n c] w (YesH w) := by
  have HX : Hid (∀ z i, Below w.heap.size w z → i < n → ∃ ab ao, p = some ⟨ab, ao, none⟩ ∧ z.rangeAt ab (ao + i * 299) (OpA (X.getD i Tr.o0)).toList ∧ OpOk (X.getD i Tr.o0)) := fun z i hz hi => (hX.old hz).at_ i (by omega)
  have HW := Lib.hid works_any
  have HNW : Hid (Calls Try.prog 10 #[] w fun e w' => ∃ b, e = .returned (.pointer (some ⟨b, 0, none⟩)) ∧ Hid (Pp w w' b Tr.new)) := (pp_new w w (Below.refl _ _)).mono fun _ _ ⟨b, h1, h2, _⟩ => ⟨b, h1, h2⟩
  have HM0 : Hid (madeCells (Value.agg (rfA Pg.zr)).cells (64 * 33) = (Tr.flat (fun k => cl (Tr.new.b k)) 64).toArray) := made64
  obtain ⟨ZO, hZO⟩ : ∃ ZO, OpA Tr.o0 = ZO := ⟨_, rfl⟩
  have HZO : Hid (ZO.size = 299) := by show _ = _; rw [← hZO]; exact opa_size Tr.o0_ok
  have hzo := (zero_of_info Try.zeroOp).1
  rw [hZO] at hzo
  have hzon : ¬ ZO = #[] := fun h => by have := HZO.out; rw [h] at this; simp at this
  obtain ⟨Z, hz0⟩ := zfk
  have HZS := Lib.hid hz0.size
  have HZ1 := Lib.hid hz0.one
  have HZB := Lib.hid hz0.built
  have hz := (zero_of_info hz0.zero).1
  have hzn : ¬ Z = #[] := fun h => by have := HZS.out; rw [h] at this; simp at this
  have hsZ := row_size Try.sizeRef33 HZS
  have HZE : Hid (rfA Pg.zr = Z) := by
    have := hz0.val
    have e6 : R33 Pg.zr = .agg (rfA Pg.zr) := rfl
    rw [e6] at this
    injection this
  have hcase : (200 < n ∨ n ≤ 200) := by omega
  unfold YesH at HW ⊢
  rcases hcase with hbig | hsm
  · have hb' : (n : Int) > 200 := by omega
    clear HX hbig hX hn hZO HM0 HNW
    go_enter Try.func5, Try.ntmps5
    go_wp2_with (first
      | (go_at_call 9; refine (HW.out _).mono ?_; rintro e2 w2 ⟨rfl, B2⟩))
    go_ret
    exact ⟨rfl, B2⟩
  have hs' : ¬ (n : Int) > 200 := by omega
  clear hX hn hsm hZO
  go_enter Try.func5, Try.ntmps5
  go_wp2_with (first
    | (go_at_call 10; refine HNW.out.mono ?_; rintro e1 w1 ⟨b, rfl, P1⟩)
    | ((with_reducible refine make_rows _ _ _ _ _ 40 33 64 ?_ ?_ Try.underlying40 Try.infoRf ?_ ?_ ?_); (exact rfl); (exact rfl); (decide); (decide); intro w2 V2' B2'; have B2 := Lib.hid B2'; have P2 := Lib.hid (P1.out.next B2.out); have V2 : Hid (HvAt w2 w1.heap.size (Tr.rn X 0).b) := (by have q := V2'.out; rw [HM0.out] at q; exact q)))
  have HGB : Hid (w1.heap.size ≠ b) := by have := P1.out.at_.lt; show _ ≠ _; omega
  have HGW : Hid (w.heap.size ≤ w1.heap.size) := P1.out.old.size
  have P2' : Hid (Pp w w2 b (Tr.rn X 0)) := P2
  obtain ⟨g, hg⟩ : ∃ g, w1.heap.size = g := ⟨_, rfl⟩
  rw [hg] at V2 HGB HGW ⊢
  clear P1 P2 V2' B2' B2 HNW HM0 hg
  go_loopw [5] (fun v5 wr => ∃ i : Nat, i ≤ n ∧ v5 = .int .i64 i ∧ Hid (Pp w wr b (Tr.rn X i)) ∧ Hid (HvAt wr g (Tr.rn X i).b)) (fun v5 _ => n - (intOf v5).toNat)
  case atStart => exact ⟨0, Nat.zero_le _, rfl, P2', V2⟩
  case round =>
    clear P2' V2
    obtain ⟨i, hi, rfl, HP, HV⟩ := hrel
    by_cases hlt : i < n
    · obtain ⟨ab, ao, hp, hr, hok⟩ := HX.out wr i HP.out.old hlt
      subst hp
      have HR := Lib.hid hr
      have HOS := Lib.hid (opa_size hok)
      have HO1 := Lib.hid (opa_one (X.getD i Tr.o0))
      have hsO := row_size Try.sizeOp HOS
      have HRU : Hid (∀ z, Pp w z b (Tr.rn X i) → Calls Try.prog 15 #[.pointer (some ⟨b, 0, none⟩), .agg (OpA (X.getD i Tr.o0))] z (fun e w' => ∃ v, e = .returned v ∧ Hid (Pp w w' b (Tr.rn X (i + 1))) ∧ Hid (Only b z w'))) := fun z h => (run_any _ hok z h).mono fun _ _ ⟨v, u, h1, _, _, h4, h5⟩ => ⟨_, h1, h4, h5⟩
      have HRB : Hid ((Tr.rn X (i + 1)).b = if (X.getD i Tr.o0).k = 0 ∧ Tr.setOk (X.getD i Tr.o0).n (X.getD i Tr.o0).r = true then Tr.up (Tr.rn X i).b (X.getD i Tr.o0).n.toNat (X.getD i Tr.o0).r else if (X.getD i Tr.o0).k = 1 ∧ Tr.inK (X.getD i Tr.o0).n then Tr.up (Tr.rn X i).b (X.getD i Tr.o0).n.toNat Pg.zr else (Tr.rn X i).b) := Tr.run_b (Tr.rn X i) (X.getD i Tr.o0) HP.out.inv
      have HOPR : Hid (∀ (y : World) (g6 : Nat), y.heap[g6]? = some (.cells (OpA (X.getD i Tr.o0)) 38 (0, 0)) → OpR y g6 0 (X.getD i Tr.o0)) := fun y g6 hy => opr_of hok (rng_whole hy)
      have HOKR := Lib.hid hok.r
      have hi0 : 0 ≤ (i : Int) := by omega
      have hi1 : (i : Int) < (n : Int) := by omega
      obtain ⟨t, ht⟩ : ∃ t, Tr.rn X i = t := ⟨_, rfl⟩
      obtain ⟨t', ht'⟩ : ∃ t, Tr.rn X (i + 1) = t := ⟨_, rfl⟩
      obtain ⟨o, ho⟩ : ∃ o, X.getD i Tr.o0 = o := ⟨_, rfl⟩
      have HT' := Lib.hid ht'
      rw [ho] at HR HOS HO1 hsO HRU HRB HOPR HOKR
      rw [ht] at HP HV HRU HRB
      rw [ht'] at HRU HRB
      have HTOK := Lib.hid HP.out.at_.ok
      have hgl := Lib.hid (lt_of_block HV.out)
      obtain ⟨OA, hOA⟩ : ∃ OA, OpA o = OA := ⟨_, rfl⟩
      rw [hOA] at HR HOS HO1 hsO HRU HOPR
      clear hr hok ht ht' ho hOA HX hlt
      go_upto_region 10 with (first
        | ((with_reducible refine rng_load _ _ _ _ _ _ ?_ HR.out Try.underlying38 ?_ hsO ?_); (exact rfl); (exact rfl))
        | ((with_reducible refine row_store _ _ _ _ _ _ _ ?_ ?_ (heap_alloc_new _ _) hsO ?_ HO1.out ?_); (exact rfl); (exact rfl); (rw [HOS.out, HZO.out]); intro w3 G3 ch3; have B3 := Lib.hid (ch3.below ((Below.refl _ wr).alloc (Nat.le_refl _) _) (Nat.le_refl _)); have P3 := Lib.hid (HP.out.next B3.out); have V3 : Hid (HvAt w3 g t.b) := (below_kept B3.out HV.out))
        | ((with_reducible refine row_load _ _ _ _ _ _ _ ?_ G3.out Try.underlying38 ?_ hsO ?_); (exact rfl); (exact rfl))
        | (go_at_call 15; refine (HRU.out _ P3.out).mono ?_; rintro e4 w4 ⟨v4, rfl, P4, O4⟩))
      have hbl := HP.out.at_.lt
      have HG6 : Hid (wr.heap.size ≠ b) := by show _ ≠ _; omega
      have HGG : Hid (g ≠ wr.heap.size) := by have := hgl.out; show _ ≠ _; omega
      have V4 : Hid (HvAt w4 g t.b) := (O4.out.block g (lt_of_block V3.out) HGB.out).trans V3.out
      have G4 := Lib.hid ((O4.out.block _ (lt_of_block G3.out) HG6.out).trans G3.out)
      have U4 : Hid (w4.heap[g]? = some (.cells (Tr.flat (fun k => cl (t.b k)) 64).toArray 33 (0, 0))) := V4
      obtain ⟨c0, c1, c2, c3, _⟩ := HOPR.out _ _ G4.out
      rw [Nat.zero_add] at c1 c2 c3
      have HC2 := Lib.hid c2
      obtain ⟨kk, N, rr, pp⟩ := o
      dsimp only at *
      have HRS := Lib.hid (rfa_size HOKR.out)
      have HR1 := Lib.hid (rfa_one rr)
      have hsR := row_size Try.sizeRef33 HRS
      obtain ⟨at_, hat⟩ : ∃ a, rr.1 = a := ⟨_, rfl⟩
      rw [hat] at c3
      have HFS : Hid ((Tr.flat (fun k => cl (t.b k)) 64).toArray.size = 2112) := by show _ = _; rw [List.size_toArray, Tr.flat_length _ 33 64 (fun k _ => cl_len (HTOK.out.1 k))]
      have HUP : Hid (∀ (y : World) (k : Nat), k < 64 → ∀ r A, Pg.Ok r → rfA r = A → y.heap[g]? = some (.cells ((Tr.flat (fun k => cl (t.b k)) 64).toArray.toList.take (k * 33) ++ A.toList ++ (Tr.flat (fun k => cl (t.b k)) 64).toArray.toList.drop (k * 33 + A.size)).toArray 33 (0, 0)) → HvAt y g (Tr.up t.b k r)) := fun y k hk r A hr hA hg => HvAt.put HTOK.out.1 k hk r hr A hA hg
      clear HRU HOPR HO1 HOS hsO HR O4 V3 P3 G3 B3 HP HV HTOK hgl
      have hc : (kk = 1 ∧ Tr.inK N) ∨ (kk = 0 ∧ Tr.inK N ∧ at_ > 0) ∨ (t'.b = t.b ∧ ((kk = 0 ∧ 0 ≤ N ∧ N < 64 ∧ ¬ at_ > 0) ∨ ¬ kk ≤ 1 ∨ (kk ≤ 1 ∧ ¬ kk ≥ 0) ∨ (kk ≤ 1 ∧ kk ≥ 0 ∧ ¬ N ≥ 0) ∨ (kk ≤ 1 ∧ kk ≥ 0 ∧ N ≥ 0 ∧ ¬ N < 64))) := by
        have hso : Tr.setOk N rr = true ↔ Tr.inK N ∧ 0 < at_ := by rw [Tr.setOk_iff, hat]
        have hb := HRB.out
        by_cases k1 : kk ≤ 1
        · by_cases k0 : kk ≥ 0
          · by_cases n0 : N ≥ 0
            · by_cases n1 : N < 64
              · have hN : Tr.inK N := by unfold Tr.inK; omega
                by_cases e1 : kk = 1
                · exact Or.inl ⟨e1, hN⟩
                · have e0 : kk = 0 := by omega
                  by_cases ha : at_ > 0
                  · exact Or.inr (Or.inl ⟨e0, hN, ha⟩)
                  · right; right
                    rw [if_neg (fun q => ha (hso.1 q.2).2), if_neg (fun q => e1 q.1)] at hb
                    exact ⟨hb, Or.inl ⟨e0, n0, n1, ha⟩⟩
              · right; right
                have hN : ¬ Tr.inK N := by unfold Tr.inK; omega
                rw [if_neg (fun q => hN (hso.1 q.2).1), if_neg (fun q => hN q.2)] at hb
                exact ⟨hb, Or.inr (Or.inr (Or.inr (Or.inr ⟨k1, k0, n0, n1⟩)))⟩
            · right; right
              have hN : ¬ Tr.inK N := by unfold Tr.inK; omega
              rw [if_neg (fun q => hN (hso.1 q.2).1), if_neg (fun q => hN q.2)] at hb
              exact ⟨hb, Or.inr (Or.inr (Or.inr (Or.inl ⟨k1, k0, n0⟩)))⟩
          · right; right
            rw [if_neg (fun q => k0 (by omega)), if_neg (fun q => k0 (by omega))] at hb
            exact ⟨hb, Or.inr (Or.inr (Or.inl ⟨k1, k0⟩))⟩
        · right; right
          rw [if_neg (fun q => k1 (by omega)), if_neg (fun q => k1 (by omega))] at hb
          exact ⟨hb, Or.inr (Or.inl k1)⟩
      rcases hc with ⟨rfl, hN⟩ | ⟨rfl, hN, hap⟩ | ⟨hbb, hno⟩
      · obtain ⟨k, rfl⟩ : ∃ k : Nat, N = (k : Int) := ⟨N.toNat, by unfold Tr.inK at hN; omega⟩
        have hk64 : k < 64 := by unfold Tr.inK at hN; omega
        have hk0 : 0 ≤ (k : Int) := by omega
        have hk1 : (k : Int) < 64 := by omega
        have HTB : Hid (t'.b = Tr.up t.b k Pg.zr) := by
          have hb := HRB.out
          rw [if_neg (fun q => absurd q.1 (by decide)), if_pos ⟨rfl, hN⟩, Int.toNat_natCast] at hb
          exact hb
        have HK64 : Hid (k < 64) := hk64
        clear HRB hN hat hk64
        go_upto_region 15 with (first
          | ((with_reducible refine row_build0 _ _ HZB.out ?_))
          | ((with_reducible refine mid_store _ _ _ g (k * 33) _ _ _ ?_ ?_ U4.out hsZ ?_ HZ1.out ?_); (exact rfl); (exact rfl); (rw [HZS.out, HFS.out]; have := HK64.out; omega); intro w5 G5 ch5))
        have P5 := Lib.hid (P4.out.other ch5.only (Ne.symm HGB.out) HGW.out)
        have V5 : Hid (HvAt w5 g t'.b) := by rw [HTB.out]; exact HUP.out _ k HK64.out _ _ pg_zr HZE.out G5.out
        clear G5 U4 V4 P4 G4 c0 c1 c2 c3 HTB HK64 hk0 hk1
        go_wp2
        have HOKB := Lib.hid P5.out.at_.ok
        have HIN := Lib.hid P5.out.inv
        have HCN := Lib.hid (Tr.cnt_step t')
        have HCL := Lib.hid (Tr.cntb_le t')
        have HMP : Hid (∀ z, Pp w z b t' → Calls Try.prog 18 #[.pointer (some ⟨b, 0, none⟩)] z fun e w' => e = .returned (.int .i64 (Tr.mapped t' : Int)) ∧ Hid (Below z.heap.size z w')) := fun z h => pmapped_any z h.at_
        have HGE : Hid (∀ z (k : Nat), k < 64 → Pp w z b t' → Calls Try.prog 17 #[.pointer (some ⟨b, 0, none⟩), .int .i64 (k : Int)] z (RbSay (t'.b k) (decide (0 < (t'.b k).1)) z)) := fun z k hk h => by
          have q := pget_any (k : Int) z h.at_
          obtain ⟨e1, e2⟩ := Tr.get_in h.at_.tz k hk
          rw [e1, e2] at q
          exact q
        clear HFS HUP HRS HR1 hsR HC2
        go_loopw [7, 8] (fun v7 v8 wq => ∃ k : Nat, k ≤ 64 ∧ v8 = .int .i64 k ∧ v7 = .int .i64 ((Tr.cntb t' k : Nat) : Int) ∧ Hid (Pp w wq b t') ∧ Hid (HvAt wq g t'.b)) (fun _ v8 _ => 64 - (intOf v8).toNat)
        case atStart => exact ⟨0, by omega, rfl, rfl, P5, V5⟩
        case round =>
          clear P5 V5
          obtain ⟨k, hk, rfl, rfl, HP, HV⟩ := hrel
          by_cases hlt : k < 64
          · have hk0 : 0 ≤ (k : Int) := by omega
            have hk1 : (k : Int) < 64 := by omega
            have HG := Lib.hid (fun z h => HGE.out z k hlt h)
            have HCK := Lib.hid (HCN.out k)
            have hcl := HCL.out k
            have HVR : Hid (∀ y, HvAt y g t'.b → y.rangeAt g (k * 33) (rfA (t'.b k)).toList ∧ y.cell? ⟨g, k * 33, none⟩ = some (.int .i64 (t'.b k).1)) := fun y hy => ⟨hy.rng HOKB.out.1 k hlt, hy.rng HOKB.out.1 k hlt 0 _ rfl⟩
            obtain ⟨R, Z', eA, e33, hkR, _⟩ := rfz (HOKB.out.1 k)
            have heqz := rf_eqs (HOKB.out.1 k) (HOKB.out.1 k)
            rw [decide_eq_true rfl] at heqz
            have HQS := Lib.hid hkR.size
            have HQ1 := Lib.hid hkR.one
            have hsQ := row_size Try.sizeRef33 HQS
            unfold RbSay at HG
            rw [e33] at HG
            rw [eA] at HVR heqz
            obtain ⟨at2, hat2⟩ : ∃ a, (t'.b k).1 = a := ⟨_, rfl⟩
            rw [hat2] at HG HVR HCK
            obtain ⟨cn, hcn⟩ : ∃ cn, Tr.cntb t' k = cn := ⟨_, rfl⟩
            rw [hcn] at HCK hcl ⊢
            have hw9 : IntKind.i64.wrap ((cn : Int) + 1) = ((cn + 1 : Nat) : Int) := by rw [IntWalk.i64_in _ ⟨by omega, by omega⟩]; omega
            clear HGE HCN HCL hkR eA e33 hat2 hcn HOKB HMP hlt
            by_cases hpos : at2 > 0
            · rw [decide_eq_true (show 0 < at2 from hpos)] at HG
              rw [if_pos (show 0 < at2 from hpos)] at HCK
              go_upto_region 20 with (first
                | (go_at_call 17; refine (HG.out _ HP.out).mono ?_; rintro e6 w6 ⟨rfl, B6⟩)
                | ((with_reducible refine row_store _ _ _ _ _ _ _ ?_ ?_ (heap_alloc_new _ _) hsQ ?_ HQ1.out ?_); (exact rfl); (exact rfl); (rw [HQS.out, HZS.out]); intro w7 G7 ch7; have B7 := Lib.hid (ch7.below (B6.out.alloc B6.out.size _) B6.out.size); have P7 := Lib.hid (HP.out.next B7.out); have V7 : Hid (HvAt w7 g t'.b) := (below_kept B7.out HV.out)))
              refine wp_region_any (by kernel_rfl) ?_
              change wpAny _ _ _ _ _ _ _ (World.drew _)
              have PZ : Hid (Pp w w7.drew b t') := ⟨⟨P7.out.at_.box, P7.out.at_.ok, P7.out.at_.tz, P7.out.at_.lo⟩, P7.out.inv, P7.out.old.drew⟩
              have VZ : Hid (HvAt w7.drew g t'.b) := V7.out
              have GZ : Hid (w7.drew.heap[w6.heap.size]? = some (.cells R 33 (0, 0))) := G7.out
              obtain ⟨z, hz9⟩ : ∃ y, y = w7.drew := ⟨_, rfl⟩
              rw [← hz9] at PZ VZ GZ ⊢
              clear hz9
              refine wpAny_of_held (S := fun y => y.heap[w6.heap.size]? = some (.cells R 33 (0, 0)) ∧ y.rangeAt g (k * 33) R.toList ∧ y.cell? ⟨g, k * 33, none⟩ = some (.int .i64 at2)) _ _ _ _ ?_
              have SD : (fun y => y.heap[w6.heap.size]? = some (.cells R 33 (0, 0)) ∧ y.rangeAt g (k * 33) R.toList ∧ y.cell? ⟨g, k * 33, none⟩ = some (.int .i64 at2)) z := ⟨GZ.out, (HVR.out _ VZ.out).1, (HVR.out _ VZ.out).2⟩
              refine anyH_take 0 76 (.agg R) SD rfl (by kernel_rfl) (by kernel_rfl) (by kernel_rfl) (fun _ _ _ h => h) (by rfl) (fun y hy => exec_arr _ _ w6.heap.size 0 _ _ rfl (rng_whole hy.1) Try.underlying33 rfl hsQ) ?_
              try simp only [Act.put, List.setIfInBounds_toArray, List.set_cons_zero, List.set_cons_succ]
              refine anyH_take 1 77 (.slice (some ⟨g, 0, none⟩) 64 64) SD rfl (by kernel_rfl) (by kernel_rfl) (by kernel_rfl) (fun _ _ _ h => h) (by rfl) (by intro y hy; obtain ⟨y0, y1, y2⟩ := hy; go_simp) ?_
              try simp only [Act.put, List.setIfInBounds_toArray, List.set_cons_zero, List.set_cons_succ]
              refine anyH_take 2 78 (.int .i64 (k : Int)) SD rfl (by kernel_rfl) (by kernel_rfl) (by kernel_rfl) (fun _ _ _ h => h) (by rfl) (by intro y hy; obtain ⟨y0, y1, y2⟩ := hy; go_simp) ?_
              try simp only [Act.put, List.setIfInBounds_toArray, List.set_cons_zero, List.set_cons_succ]
              refine anyH_take 3 79 (.pointer (some ⟨g, k * 33, none⟩)) SD rfl (by kernel_rfl) (by kernel_rfl) (by kernel_rfl) (fun _ _ _ h => h) (by rfl) (by intro y hy; obtain ⟨y0, y1, y2⟩ := hy; go_simp) ?_
              try simp only [Act.put, List.setIfInBounds_toArray, List.set_cons_zero, List.set_cons_succ]
              refine anyH_take 4 80 (.agg R) SD rfl (by kernel_rfl) (by kernel_rfl) (by kernel_rfl) (fun _ _ _ h => h) (by rfl) (fun y hy => exec_arr _ _ g (k * 33) _ _ rfl hy.2.1 Try.underlying33 rfl hsQ) ?_
              try simp only [Act.put, List.setIfInBounds_toArray, List.set_cons_zero, List.set_cons_succ]
              refine anyH_take 5 81 (.bool false) SD rfl (by kernel_rfl) (by kernel_rfl) (by kernel_rfl) (fun _ _ _ h => h) (by rfl) (by intro y hy; obtain ⟨y0, y1, y2⟩ := hy; go_simp) ?_
              try simp only [Act.put, List.setIfInBounds_toArray, List.set_cons_zero, List.set_cons_succ]
              refine anyH_take 6 82 (.bool false) SD rfl (by kernel_rfl) (by kernel_rfl) (by kernel_rfl) (fun _ _ _ h => h) (by rfl) (by intro y hy; obtain ⟨y0, y1, y2⟩ := hy; go_simp) ?_
              try simp only [Act.put, List.setIfInBounds_toArray, List.set_cons_zero, List.set_cons_succ]
              refine anyH_take 7 83 (.bool true) SD rfl (by kernel_rfl) (by kernel_rfl) (by kernel_rfl) (fun _ _ _ h => h) (by rfl) (by intro y hy; obtain ⟨y0, y1, y2⟩ := hy; go_simp) ?_
              try simp only [Act.put, List.setIfInBounds_toArray, List.set_cons_zero, List.set_cons_succ]
              refine anyH_take 8 84 (.slice (some ⟨g, 0, none⟩) 64 64) SD rfl (by kernel_rfl) (by kernel_rfl) (by kernel_rfl) (fun _ _ _ h => h) (by rfl) (by intro y hy; obtain ⟨y0, y1, y2⟩ := hy; go_simp) ?_
              try simp only [Act.put, List.setIfInBounds_toArray, List.set_cons_zero, List.set_cons_succ]
              refine anyH_take 9 85 (.int .i64 (k : Int)) SD rfl (by kernel_rfl) (by kernel_rfl) (by kernel_rfl) (fun _ _ _ h => h) (by rfl) (by intro y hy; obtain ⟨y0, y1, y2⟩ := hy; go_simp) ?_
              try simp only [Act.put, List.setIfInBounds_toArray, List.set_cons_zero, List.set_cons_succ]
              refine anyH_take 10 86 (.pointer (some ⟨g, k * 33, none⟩)) SD rfl (by kernel_rfl) (by kernel_rfl) (by kernel_rfl) (fun _ _ _ h => h) (by rfl) (by intro y hy; obtain ⟨y0, y1, y2⟩ := hy; go_simp) ?_
              try simp only [Act.put, List.setIfInBounds_toArray, List.set_cons_zero, List.set_cons_succ]
              refine anyH_take 11 87 (.pointer (some ⟨g, k * 33, none⟩)) SD rfl (by kernel_rfl) (by kernel_rfl) (by kernel_rfl) (fun _ _ _ h => h) (by rfl) (by intro y hy; obtain ⟨y0, y1, y2⟩ := hy; go_simp) ?_
              try simp only [Act.put, List.setIfInBounds_toArray, List.set_cons_zero, List.set_cons_succ]
              refine anyH_take 12 88 (.int .i64 at2) SD rfl (by kernel_rfl) (by kernel_rfl) (by kernel_rfl) (fun _ _ _ h => h) (by rfl) (by intro y hy; obtain ⟨y0, y1, y2⟩ := hy; go_simp) ?_
              try simp only [Act.put, List.setIfInBounds_toArray, List.set_cons_zero, List.set_cons_succ]
              refine anyH_take 13 89 (.bool true) SD rfl (by kernel_rfl) (by kernel_rfl) (by kernel_rfl) (fun _ _ _ h => h) (by rfl) (by intro y hy; obtain ⟨y0, y1, y2⟩ := hy; go_simp) ?_
              try simp only [Act.put, List.setIfInBounds_toArray, List.set_cons_zero, List.set_cons_succ]
              refine anyH_take 14 90 (.bool false) SD rfl (by kernel_rfl) (by kernel_rfl) (by kernel_rfl) (fun _ _ _ h => h) (by rfl) (by intro y hy; obtain ⟨y0, y1, y2⟩ := hy; go_simp) ?_
              try simp only [Act.put, List.setIfInBounds_toArray, List.set_cons_zero, List.set_cons_succ]
              refine anyH_take 15 91 (.bool false) SD rfl (by kernel_rfl) (by kernel_rfl) (by kernel_rfl) (fun _ _ _ h => h) (by rfl) (by intro y hy; obtain ⟨y0, y1, y2⟩ := hy; go_simp) ?_
              try simp only [Act.put, List.setIfInBounds_toArray, List.set_cons_zero, List.set_cons_succ]
              refine wpAnyH_done (by kernel_rfl) ?_ _
              go_wp2
              exact ⟨⟨k + 1, by omega, by go_num, (by rw [HCK.out]; go_num), PZ, VZ⟩, by simp [intOf]; omega⟩
            · rw [decide_eq_false (show ¬ 0 < at2 from hpos)] at HG
              rw [if_neg (show ¬ 0 < at2 from hpos)] at HCK
              go_upto_region 20 with (first
                | (go_at_call 17; refine (HG.out _ HP.out).mono ?_; rintro e6 w6 ⟨rfl, B6⟩)
                | ((with_reducible refine row_store _ _ _ _ _ _ _ ?_ ?_ (heap_alloc_new _ _) hsQ ?_ HQ1.out ?_); (exact rfl); (exact rfl); (rw [HQS.out, HZS.out]); intro w7 G7 ch7; have B7 := Lib.hid (ch7.below (B6.out.alloc B6.out.size _) B6.out.size); have P7 := Lib.hid (HP.out.next B7.out); have V7 : Hid (HvAt w7 g t'.b) := (below_kept B7.out HV.out)))
              refine wp_region_any (by kernel_rfl) ?_
              change wpAny _ _ _ _ _ _ _ (World.drew _)
              have PZ : Hid (Pp w w7.drew b t') := ⟨⟨P7.out.at_.box, P7.out.at_.ok, P7.out.at_.tz, P7.out.at_.lo⟩, P7.out.inv, P7.out.old.drew⟩
              have VZ : Hid (HvAt w7.drew g t'.b) := V7.out
              have GZ : Hid (w7.drew.heap[w6.heap.size]? = some (.cells R 33 (0, 0))) := G7.out
              obtain ⟨z, hz9⟩ : ∃ y, y = w7.drew := ⟨_, rfl⟩
              rw [← hz9] at PZ VZ GZ ⊢
              clear hz9
              refine wpAny_of_held (S := fun y => y.heap[w6.heap.size]? = some (.cells R 33 (0, 0)) ∧ y.rangeAt g (k * 33) R.toList ∧ y.cell? ⟨g, k * 33, none⟩ = some (.int .i64 at2)) _ _ _ _ ?_
              have SD : (fun y => y.heap[w6.heap.size]? = some (.cells R 33 (0, 0)) ∧ y.rangeAt g (k * 33) R.toList ∧ y.cell? ⟨g, k * 33, none⟩ = some (.int .i64 at2)) z := ⟨GZ.out, (HVR.out _ VZ.out).1, (HVR.out _ VZ.out).2⟩
              refine anyH_take 0 76 (.agg R) SD rfl (by kernel_rfl) (by kernel_rfl) (by kernel_rfl) (fun _ _ _ h => h) (by rfl) (fun y hy => exec_arr _ _ w6.heap.size 0 _ _ rfl (rng_whole hy.1) Try.underlying33 rfl hsQ) ?_
              try simp only [Act.put, List.setIfInBounds_toArray, List.set_cons_zero, List.set_cons_succ]
              refine anyH_take 1 77 (.slice (some ⟨g, 0, none⟩) 64 64) SD rfl (by kernel_rfl) (by kernel_rfl) (by kernel_rfl) (fun _ _ _ h => h) (by rfl) (by intro y hy; obtain ⟨y0, y1, y2⟩ := hy; go_simp) ?_
              try simp only [Act.put, List.setIfInBounds_toArray, List.set_cons_zero, List.set_cons_succ]
              refine anyH_take 2 78 (.int .i64 (k : Int)) SD rfl (by kernel_rfl) (by kernel_rfl) (by kernel_rfl) (fun _ _ _ h => h) (by rfl) (by intro y hy; obtain ⟨y0, y1, y2⟩ := hy; go_simp) ?_
              try simp only [Act.put, List.setIfInBounds_toArray, List.set_cons_zero, List.set_cons_succ]
              refine anyH_take 3 79 (.pointer (some ⟨g, k * 33, none⟩)) SD rfl (by kernel_rfl) (by kernel_rfl) (by kernel_rfl) (fun _ _ _ h => h) (by rfl) (by intro y hy; obtain ⟨y0, y1, y2⟩ := hy; go_simp) ?_
              try simp only [Act.put, List.setIfInBounds_toArray, List.set_cons_zero, List.set_cons_succ]
              refine anyH_take 4 80 (.agg R) SD rfl (by kernel_rfl) (by kernel_rfl) (by kernel_rfl) (fun _ _ _ h => h) (by rfl) (fun y hy => exec_arr _ _ g (k * 33) _ _ rfl hy.2.1 Try.underlying33 rfl hsQ) ?_
              try simp only [Act.put, List.setIfInBounds_toArray, List.set_cons_zero, List.set_cons_succ]
              refine anyH_take 5 81 (.bool false) SD rfl (by kernel_rfl) (by kernel_rfl) (by kernel_rfl) (fun _ _ _ h => h) (by rfl) (by intro y hy; obtain ⟨y0, y1, y2⟩ := hy; go_simp) ?_
              try simp only [Act.put, List.setIfInBounds_toArray, List.set_cons_zero, List.set_cons_succ]
              refine anyH_take 6 82 (.bool false) SD rfl (by kernel_rfl) (by kernel_rfl) (by kernel_rfl) (fun _ _ _ h => h) (by rfl) (by intro y hy; obtain ⟨y0, y1, y2⟩ := hy; go_simp) ?_
              try simp only [Act.put, List.setIfInBounds_toArray, List.set_cons_zero, List.set_cons_succ]
              refine anyH_take 7 83 (.bool false) SD rfl (by kernel_rfl) (by kernel_rfl) (by kernel_rfl) (fun _ _ _ h => h) (by rfl) (by intro y hy; obtain ⟨y0, y1, y2⟩ := hy; go_simp) ?_
              try simp only [Act.put, List.setIfInBounds_toArray, List.set_cons_zero, List.set_cons_succ]
              refine anyH_take 8 84 (.slice (some ⟨g, 0, none⟩) 64 64) SD rfl (by kernel_rfl) (by kernel_rfl) (by kernel_rfl) (fun _ _ _ h => h) (by rfl) (by intro y hy; obtain ⟨y0, y1, y2⟩ := hy; go_simp) ?_
              try simp only [Act.put, List.setIfInBounds_toArray, List.set_cons_zero, List.set_cons_succ]
              refine anyH_take 9 85 (.int .i64 (k : Int)) SD rfl (by kernel_rfl) (by kernel_rfl) (by kernel_rfl) (fun _ _ _ h => h) (by rfl) (by intro y hy; obtain ⟨y0, y1, y2⟩ := hy; go_simp) ?_
              try simp only [Act.put, List.setIfInBounds_toArray, List.set_cons_zero, List.set_cons_succ]
              refine anyH_take 10 86 (.pointer (some ⟨g, k * 33, none⟩)) SD rfl (by kernel_rfl) (by kernel_rfl) (by kernel_rfl) (fun _ _ _ h => h) (by rfl) (by intro y hy; obtain ⟨y0, y1, y2⟩ := hy; go_simp) ?_
              try simp only [Act.put, List.setIfInBounds_toArray, List.set_cons_zero, List.set_cons_succ]
              refine anyH_take 11 87 (.pointer (some ⟨g, k * 33, none⟩)) SD rfl (by kernel_rfl) (by kernel_rfl) (by kernel_rfl) (fun _ _ _ h => h) (by rfl) (by intro y hy; obtain ⟨y0, y1, y2⟩ := hy; go_simp) ?_
              try simp only [Act.put, List.setIfInBounds_toArray, List.set_cons_zero, List.set_cons_succ]
              refine anyH_take 12 88 (.int .i64 at2) SD rfl (by kernel_rfl) (by kernel_rfl) (by kernel_rfl) (fun _ _ _ h => h) (by rfl) (by intro y hy; obtain ⟨y0, y1, y2⟩ := hy; go_simp) ?_
              try simp only [Act.put, List.setIfInBounds_toArray, List.set_cons_zero, List.set_cons_succ]
              refine anyH_take 13 89 (.bool false) SD rfl (by kernel_rfl) (by kernel_rfl) (by kernel_rfl) (fun _ _ _ h => h) (by rfl) (by intro y hy; obtain ⟨y0, y1, y2⟩ := hy; go_simp) ?_
              try simp only [Act.put, List.setIfInBounds_toArray, List.set_cons_zero, List.set_cons_succ]
              refine anyH_take 14 90 (.bool false) SD rfl (by kernel_rfl) (by kernel_rfl) (by kernel_rfl) (fun _ _ _ h => h) (by rfl) (by intro y hy; obtain ⟨y0, y1, y2⟩ := hy; go_simp) ?_
              try simp only [Act.put, List.setIfInBounds_toArray, List.set_cons_zero, List.set_cons_succ]
              refine anyH_take 15 91 (.bool false) SD rfl (by kernel_rfl) (by kernel_rfl) (by kernel_rfl) (fun _ _ _ h => h) (by rfl) (by intro y hy; obtain ⟨y0, y1, y2⟩ := hy; go_simp) ?_
              try simp only [Act.put, List.setIfInBounds_toArray, List.set_cons_zero, List.set_cons_succ]
              refine wpAnyH_done (by kernel_rfl) ?_ _
              go_wp2
              exact ⟨⟨k + 1, by omega, by go_num, (by rw [HCK.out]; try rfl), PZ, VZ⟩, by simp [intOf]; omega⟩
          · have E : k = 64 := by omega
            subst E
            have HMM : Hid (Tr.mapped t' = Tr.cntb t' 64) := rfl
            rw [HMM.out] at HMP
            generalize Tr.cntb t' 64 = cn at *
            have hnn : ((cn : Int) != (cn : Int)) = false := by simp
            clear hlt HGE HCN HCL HOKB HIN HMM
            go_wp2_with (first
              | (go_at_call 18; refine (HMP.out _ HP.out).mono ?_; rintro e8 w8 ⟨rfl, B8⟩; have P8 := Lib.hid (HP.out.next B8.out); have V8 : Hid (HvAt w8 g t'.b) := (below_kept B8.out HV.out)))
            exact ⟨⟨i + 1, by omega, by go_num, by rw [HT'.out]; exact P8, by rw [HT'.out]; exact V8⟩, by simp [intOf]; omega⟩
      · obtain ⟨k, rfl⟩ : ∃ k : Nat, N = (k : Int) := ⟨N.toNat, by unfold Tr.inK at hN; omega⟩
        have hk64 : k < 64 := by unfold Tr.inK at hN; omega
        have hk0 : 0 ≤ (k : Int) := by omega
        have hk1 : (k : Int) < 64 := by omega
        have HTB : Hid (t'.b = Tr.up t.b k rr) := by
          have hb := HRB.out
          rw [if_pos ⟨rfl, (Tr.setOk_iff _ _).2 ⟨hN, by rw [hat]; exact hap⟩⟩, Int.toNat_natCast] at hb
          exact hb
        have HK64 : Hid (k < 64) := hk64
        clear HRB hN hat hk64
        go_upto_region 15 with (first
          | ((with_reducible refine rng_load _ _ _ _ _ _ ?_ HC2.out Try.underlying33 ?_ hsR ?_); (exact rfl); (exact rfl))
          | ((with_reducible refine mid_store _ _ _ g (k * 33) _ _ _ ?_ ?_ U4.out hsR ?_ HR1.out ?_); (exact rfl); (exact rfl); (rw [HRS.out, HFS.out]; have := HK64.out; omega); intro w5 G5 ch5))
        have P5 := Lib.hid (P4.out.other ch5.only (Ne.symm HGB.out) HGW.out)
        have V5 : Hid (HvAt w5 g t'.b) := by rw [HTB.out]; exact HUP.out _ k HK64.out _ _ HOKR.out rfl G5.out
        clear G5 U4 V4 P4 G4 c0 c1 c2 c3 HTB HK64 hk0 hk1 hap
        go_wp2
        have HOKB := Lib.hid P5.out.at_.ok
        have HIN := Lib.hid P5.out.inv
        have HCN := Lib.hid (Tr.cnt_step t')
        have HCL := Lib.hid (Tr.cntb_le t')
        have HMP : Hid (∀ z, Pp w z b t' → Calls Try.prog 18 #[.pointer (some ⟨b, 0, none⟩)] z fun e w' => e = .returned (.int .i64 (Tr.mapped t' : Int)) ∧ Hid (Below z.heap.size z w')) := fun z h => pmapped_any z h.at_
        have HGE : Hid (∀ z (k : Nat), k < 64 → Pp w z b t' → Calls Try.prog 17 #[.pointer (some ⟨b, 0, none⟩), .int .i64 (k : Int)] z (RbSay (t'.b k) (decide (0 < (t'.b k).1)) z)) := fun z k hk h => by
          have q := pget_any (k : Int) z h.at_
          obtain ⟨e1, e2⟩ := Tr.get_in h.at_.tz k hk
          rw [e1, e2] at q
          exact q
        clear HFS HUP HRS HR1 hsR HC2
        go_loopw [7, 8] (fun v7 v8 wq => ∃ k : Nat, k ≤ 64 ∧ v8 = .int .i64 k ∧ v7 = .int .i64 ((Tr.cntb t' k : Nat) : Int) ∧ Hid (Pp w wq b t') ∧ Hid (HvAt wq g t'.b)) (fun _ v8 _ => 64 - (intOf v8).toNat)
        case atStart => exact ⟨0, by omega, rfl, rfl, P5, V5⟩
        case round =>
          clear P5 V5
          obtain ⟨k, hk, rfl, rfl, HP, HV⟩ := hrel
          by_cases hlt : k < 64
          · have hk0 : 0 ≤ (k : Int) := by omega
            have hk1 : (k : Int) < 64 := by omega
            have HG := Lib.hid (fun z h => HGE.out z k hlt h)
            have HCK := Lib.hid (HCN.out k)
            have hcl := HCL.out k
            have HVR : Hid (∀ y, HvAt y g t'.b → y.rangeAt g (k * 33) (rfA (t'.b k)).toList ∧ y.cell? ⟨g, k * 33, none⟩ = some (.int .i64 (t'.b k).1)) := fun y hy => ⟨hy.rng HOKB.out.1 k hlt, hy.rng HOKB.out.1 k hlt 0 _ rfl⟩
            obtain ⟨R, Z', eA, e33, hkR, _⟩ := rfz (HOKB.out.1 k)
            have heqz := rf_eqs (HOKB.out.1 k) (HOKB.out.1 k)
            rw [decide_eq_true rfl] at heqz
            have HQS := Lib.hid hkR.size
            have HQ1 := Lib.hid hkR.one
            have hsQ := row_size Try.sizeRef33 HQS
            unfold RbSay at HG
            rw [e33] at HG
            rw [eA] at HVR heqz
            obtain ⟨at2, hat2⟩ : ∃ a, (t'.b k).1 = a := ⟨_, rfl⟩
            rw [hat2] at HG HVR HCK
            obtain ⟨cn, hcn⟩ : ∃ cn, Tr.cntb t' k = cn := ⟨_, rfl⟩
            rw [hcn] at HCK hcl ⊢
            have hw9 : IntKind.i64.wrap ((cn : Int) + 1) = ((cn + 1 : Nat) : Int) := by rw [IntWalk.i64_in _ ⟨by omega, by omega⟩]; omega
            clear HGE HCN HCL hkR eA e33 hat2 hcn HOKB HMP hlt
            by_cases hpos : at2 > 0
            · rw [decide_eq_true (show 0 < at2 from hpos)] at HG
              rw [if_pos (show 0 < at2 from hpos)] at HCK
              go_upto_region 20 with (first
                | (go_at_call 17; refine (HG.out _ HP.out).mono ?_; rintro e6 w6 ⟨rfl, B6⟩)
                | ((with_reducible refine row_store _ _ _ _ _ _ _ ?_ ?_ (heap_alloc_new _ _) hsQ ?_ HQ1.out ?_); (exact rfl); (exact rfl); (rw [HQS.out, HZS.out]); intro w7 G7 ch7; have B7 := Lib.hid (ch7.below (B6.out.alloc B6.out.size _) B6.out.size); have P7 := Lib.hid (HP.out.next B7.out); have V7 : Hid (HvAt w7 g t'.b) := (below_kept B7.out HV.out)))
              refine wp_region_any (by kernel_rfl) ?_
              change wpAny _ _ _ _ _ _ _ (World.drew _)
              have PZ : Hid (Pp w w7.drew b t') := ⟨⟨P7.out.at_.box, P7.out.at_.ok, P7.out.at_.tz, P7.out.at_.lo⟩, P7.out.inv, P7.out.old.drew⟩
              have VZ : Hid (HvAt w7.drew g t'.b) := V7.out
              have GZ : Hid (w7.drew.heap[w6.heap.size]? = some (.cells R 33 (0, 0))) := G7.out
              obtain ⟨z, hz9⟩ : ∃ y, y = w7.drew := ⟨_, rfl⟩
              rw [← hz9] at PZ VZ GZ ⊢
              clear hz9
              refine wpAny_of_held (S := fun y => y.heap[w6.heap.size]? = some (.cells R 33 (0, 0)) ∧ y.rangeAt g (k * 33) R.toList ∧ y.cell? ⟨g, k * 33, none⟩ = some (.int .i64 at2)) _ _ _ _ ?_
              have SD : (fun y => y.heap[w6.heap.size]? = some (.cells R 33 (0, 0)) ∧ y.rangeAt g (k * 33) R.toList ∧ y.cell? ⟨g, k * 33, none⟩ = some (.int .i64 at2)) z := ⟨GZ.out, (HVR.out _ VZ.out).1, (HVR.out _ VZ.out).2⟩
              refine anyH_take 0 76 (.agg R) SD rfl (by kernel_rfl) (by kernel_rfl) (by kernel_rfl) (fun _ _ _ h => h) (by rfl) (fun y hy => exec_arr _ _ w6.heap.size 0 _ _ rfl (rng_whole hy.1) Try.underlying33 rfl hsQ) ?_
              try simp only [Act.put, List.setIfInBounds_toArray, List.set_cons_zero, List.set_cons_succ]
              refine anyH_take 1 77 (.slice (some ⟨g, 0, none⟩) 64 64) SD rfl (by kernel_rfl) (by kernel_rfl) (by kernel_rfl) (fun _ _ _ h => h) (by rfl) (by intro y hy; obtain ⟨y0, y1, y2⟩ := hy; go_simp) ?_
              try simp only [Act.put, List.setIfInBounds_toArray, List.set_cons_zero, List.set_cons_succ]
              refine anyH_take 2 78 (.int .i64 (k : Int)) SD rfl (by kernel_rfl) (by kernel_rfl) (by kernel_rfl) (fun _ _ _ h => h) (by rfl) (by intro y hy; obtain ⟨y0, y1, y2⟩ := hy; go_simp) ?_
              try simp only [Act.put, List.setIfInBounds_toArray, List.set_cons_zero, List.set_cons_succ]
              refine anyH_take 3 79 (.pointer (some ⟨g, k * 33, none⟩)) SD rfl (by kernel_rfl) (by kernel_rfl) (by kernel_rfl) (fun _ _ _ h => h) (by rfl) (by intro y hy; obtain ⟨y0, y1, y2⟩ := hy; go_simp) ?_
              try simp only [Act.put, List.setIfInBounds_toArray, List.set_cons_zero, List.set_cons_succ]
              refine anyH_take 4 80 (.agg R) SD rfl (by kernel_rfl) (by kernel_rfl) (by kernel_rfl) (fun _ _ _ h => h) (by rfl) (fun y hy => exec_arr _ _ g (k * 33) _ _ rfl hy.2.1 Try.underlying33 rfl hsQ) ?_
              try simp only [Act.put, List.setIfInBounds_toArray, List.set_cons_zero, List.set_cons_succ]
              refine anyH_take 5 81 (.bool false) SD rfl (by kernel_rfl) (by kernel_rfl) (by kernel_rfl) (fun _ _ _ h => h) (by rfl) (by intro y hy; obtain ⟨y0, y1, y2⟩ := hy; go_simp) ?_
              try simp only [Act.put, List.setIfInBounds_toArray, List.set_cons_zero, List.set_cons_succ]
              refine anyH_take 6 82 (.bool false) SD rfl (by kernel_rfl) (by kernel_rfl) (by kernel_rfl) (fun _ _ _ h => h) (by rfl) (by intro y hy; obtain ⟨y0, y1, y2⟩ := hy; go_simp) ?_
              try simp only [Act.put, List.setIfInBounds_toArray, List.set_cons_zero, List.set_cons_succ]
              refine anyH_take 7 83 (.bool true) SD rfl (by kernel_rfl) (by kernel_rfl) (by kernel_rfl) (fun _ _ _ h => h) (by rfl) (by intro y hy; obtain ⟨y0, y1, y2⟩ := hy; go_simp) ?_
              try simp only [Act.put, List.setIfInBounds_toArray, List.set_cons_zero, List.set_cons_succ]
              refine anyH_take 8 84 (.slice (some ⟨g, 0, none⟩) 64 64) SD rfl (by kernel_rfl) (by kernel_rfl) (by kernel_rfl) (fun _ _ _ h => h) (by rfl) (by intro y hy; obtain ⟨y0, y1, y2⟩ := hy; go_simp) ?_
              try simp only [Act.put, List.setIfInBounds_toArray, List.set_cons_zero, List.set_cons_succ]
              refine anyH_take 9 85 (.int .i64 (k : Int)) SD rfl (by kernel_rfl) (by kernel_rfl) (by kernel_rfl) (fun _ _ _ h => h) (by rfl) (by intro y hy; obtain ⟨y0, y1, y2⟩ := hy; go_simp) ?_
              try simp only [Act.put, List.setIfInBounds_toArray, List.set_cons_zero, List.set_cons_succ]
              refine anyH_take 10 86 (.pointer (some ⟨g, k * 33, none⟩)) SD rfl (by kernel_rfl) (by kernel_rfl) (by kernel_rfl) (fun _ _ _ h => h) (by rfl) (by intro y hy; obtain ⟨y0, y1, y2⟩ := hy; go_simp) ?_
              try simp only [Act.put, List.setIfInBounds_toArray, List.set_cons_zero, List.set_cons_succ]
              refine anyH_take 11 87 (.pointer (some ⟨g, k * 33, none⟩)) SD rfl (by kernel_rfl) (by kernel_rfl) (by kernel_rfl) (fun _ _ _ h => h) (by rfl) (by intro y hy; obtain ⟨y0, y1, y2⟩ := hy; go_simp) ?_
              try simp only [Act.put, List.setIfInBounds_toArray, List.set_cons_zero, List.set_cons_succ]
              refine anyH_take 12 88 (.int .i64 at2) SD rfl (by kernel_rfl) (by kernel_rfl) (by kernel_rfl) (fun _ _ _ h => h) (by rfl) (by intro y hy; obtain ⟨y0, y1, y2⟩ := hy; go_simp) ?_
              try simp only [Act.put, List.setIfInBounds_toArray, List.set_cons_zero, List.set_cons_succ]
              refine anyH_take 13 89 (.bool true) SD rfl (by kernel_rfl) (by kernel_rfl) (by kernel_rfl) (fun _ _ _ h => h) (by rfl) (by intro y hy; obtain ⟨y0, y1, y2⟩ := hy; go_simp) ?_
              try simp only [Act.put, List.setIfInBounds_toArray, List.set_cons_zero, List.set_cons_succ]
              refine anyH_take 14 90 (.bool false) SD rfl (by kernel_rfl) (by kernel_rfl) (by kernel_rfl) (fun _ _ _ h => h) (by rfl) (by intro y hy; obtain ⟨y0, y1, y2⟩ := hy; go_simp) ?_
              try simp only [Act.put, List.setIfInBounds_toArray, List.set_cons_zero, List.set_cons_succ]
              refine anyH_take 15 91 (.bool false) SD rfl (by kernel_rfl) (by kernel_rfl) (by kernel_rfl) (fun _ _ _ h => h) (by rfl) (by intro y hy; obtain ⟨y0, y1, y2⟩ := hy; go_simp) ?_
              try simp only [Act.put, List.setIfInBounds_toArray, List.set_cons_zero, List.set_cons_succ]
              refine wpAnyH_done (by kernel_rfl) ?_ _
              go_wp2
              exact ⟨⟨k + 1, by omega, by go_num, (by rw [HCK.out]; go_num), PZ, VZ⟩, by simp [intOf]; omega⟩
            · rw [decide_eq_false (show ¬ 0 < at2 from hpos)] at HG
              rw [if_neg (show ¬ 0 < at2 from hpos)] at HCK
              go_upto_region 20 with (first
                | (go_at_call 17; refine (HG.out _ HP.out).mono ?_; rintro e6 w6 ⟨rfl, B6⟩)
                | ((with_reducible refine row_store _ _ _ _ _ _ _ ?_ ?_ (heap_alloc_new _ _) hsQ ?_ HQ1.out ?_); (exact rfl); (exact rfl); (rw [HQS.out, HZS.out]); intro w7 G7 ch7; have B7 := Lib.hid (ch7.below (B6.out.alloc B6.out.size _) B6.out.size); have P7 := Lib.hid (HP.out.next B7.out); have V7 : Hid (HvAt w7 g t'.b) := (below_kept B7.out HV.out)))
              refine wp_region_any (by kernel_rfl) ?_
              change wpAny _ _ _ _ _ _ _ (World.drew _)
              have PZ : Hid (Pp w w7.drew b t') := ⟨⟨P7.out.at_.box, P7.out.at_.ok, P7.out.at_.tz, P7.out.at_.lo⟩, P7.out.inv, P7.out.old.drew⟩
              have VZ : Hid (HvAt w7.drew g t'.b) := V7.out
              have GZ : Hid (w7.drew.heap[w6.heap.size]? = some (.cells R 33 (0, 0))) := G7.out
              obtain ⟨z, hz9⟩ : ∃ y, y = w7.drew := ⟨_, rfl⟩
              rw [← hz9] at PZ VZ GZ ⊢
              clear hz9
              refine wpAny_of_held (S := fun y => y.heap[w6.heap.size]? = some (.cells R 33 (0, 0)) ∧ y.rangeAt g (k * 33) R.toList ∧ y.cell? ⟨g, k * 33, none⟩ = some (.int .i64 at2)) _ _ _ _ ?_
              have SD : (fun y => y.heap[w6.heap.size]? = some (.cells R 33 (0, 0)) ∧ y.rangeAt g (k * 33) R.toList ∧ y.cell? ⟨g, k * 33, none⟩ = some (.int .i64 at2)) z := ⟨GZ.out, (HVR.out _ VZ.out).1, (HVR.out _ VZ.out).2⟩
              refine anyH_take 0 76 (.agg R) SD rfl (by kernel_rfl) (by kernel_rfl) (by kernel_rfl) (fun _ _ _ h => h) (by rfl) (fun y hy => exec_arr _ _ w6.heap.size 0 _ _ rfl (rng_whole hy.1) Try.underlying33 rfl hsQ) ?_
              try simp only [Act.put, List.setIfInBounds_toArray, List.set_cons_zero, List.set_cons_succ]
              refine anyH_take 1 77 (.slice (some ⟨g, 0, none⟩) 64 64) SD rfl (by kernel_rfl) (by kernel_rfl) (by kernel_rfl) (fun _ _ _ h => h) (by rfl) (by intro y hy; obtain ⟨y0, y1, y2⟩ := hy; go_simp) ?_
              try simp only [Act.put, List.setIfInBounds_toArray, List.set_cons_zero, List.set_cons_succ]
              refine anyH_take 2 78 (.int .i64 (k : Int)) SD rfl (by kernel_rfl) (by kernel_rfl) (by kernel_rfl) (fun _ _ _ h => h) (by rfl) (by intro y hy; obtain ⟨y0, y1, y2⟩ := hy; go_simp) ?_
              try simp only [Act.put, List.setIfInBounds_toArray, List.set_cons_zero, List.set_cons_succ]
              refine anyH_take 3 79 (.pointer (some ⟨g, k * 33, none⟩)) SD rfl (by kernel_rfl) (by kernel_rfl) (by kernel_rfl) (fun _ _ _ h => h) (by rfl) (by intro y hy; obtain ⟨y0, y1, y2⟩ := hy; go_simp) ?_
              try simp only [Act.put, List.setIfInBounds_toArray, List.set_cons_zero, List.set_cons_succ]
              refine anyH_take 4 80 (.agg R) SD rfl (by kernel_rfl) (by kernel_rfl) (by kernel_rfl) (fun _ _ _ h => h) (by rfl) (fun y hy => exec_arr _ _ g (k * 33) _ _ rfl hy.2.1 Try.underlying33 rfl hsQ) ?_
              try simp only [Act.put, List.setIfInBounds_toArray, List.set_cons_zero, List.set_cons_succ]
              refine anyH_take 5 81 (.bool false) SD rfl (by kernel_rfl) (by kernel_rfl) (by kernel_rfl) (fun _ _ _ h => h) (by rfl) (by intro y hy; obtain ⟨y0, y1, y2⟩ := hy; go_simp) ?_
              try simp only [Act.put, List.setIfInBounds_toArray, List.set_cons_zero, List.set_cons_succ]
              refine anyH_take 6 82 (.bool false) SD rfl (by kernel_rfl) (by kernel_rfl) (by kernel_rfl) (fun _ _ _ h => h) (by rfl) (by intro y hy; obtain ⟨y0, y1, y2⟩ := hy; go_simp) ?_
              try simp only [Act.put, List.setIfInBounds_toArray, List.set_cons_zero, List.set_cons_succ]
              refine anyH_take 7 83 (.bool false) SD rfl (by kernel_rfl) (by kernel_rfl) (by kernel_rfl) (fun _ _ _ h => h) (by rfl) (by intro y hy; obtain ⟨y0, y1, y2⟩ := hy; go_simp) ?_
              try simp only [Act.put, List.setIfInBounds_toArray, List.set_cons_zero, List.set_cons_succ]
              refine anyH_take 8 84 (.slice (some ⟨g, 0, none⟩) 64 64) SD rfl (by kernel_rfl) (by kernel_rfl) (by kernel_rfl) (fun _ _ _ h => h) (by rfl) (by intro y hy; obtain ⟨y0, y1, y2⟩ := hy; go_simp) ?_
              try simp only [Act.put, List.setIfInBounds_toArray, List.set_cons_zero, List.set_cons_succ]
              refine anyH_take 9 85 (.int .i64 (k : Int)) SD rfl (by kernel_rfl) (by kernel_rfl) (by kernel_rfl) (fun _ _ _ h => h) (by rfl) (by intro y hy; obtain ⟨y0, y1, y2⟩ := hy; go_simp) ?_
              try simp only [Act.put, List.setIfInBounds_toArray, List.set_cons_zero, List.set_cons_succ]
              refine anyH_take 10 86 (.pointer (some ⟨g, k * 33, none⟩)) SD rfl (by kernel_rfl) (by kernel_rfl) (by kernel_rfl) (fun _ _ _ h => h) (by rfl) (by intro y hy; obtain ⟨y0, y1, y2⟩ := hy; go_simp) ?_
              try simp only [Act.put, List.setIfInBounds_toArray, List.set_cons_zero, List.set_cons_succ]
              refine anyH_take 11 87 (.pointer (some ⟨g, k * 33, none⟩)) SD rfl (by kernel_rfl) (by kernel_rfl) (by kernel_rfl) (fun _ _ _ h => h) (by rfl) (by intro y hy; obtain ⟨y0, y1, y2⟩ := hy; go_simp) ?_
              try simp only [Act.put, List.setIfInBounds_toArray, List.set_cons_zero, List.set_cons_succ]
              refine anyH_take 12 88 (.int .i64 at2) SD rfl (by kernel_rfl) (by kernel_rfl) (by kernel_rfl) (fun _ _ _ h => h) (by rfl) (by intro y hy; obtain ⟨y0, y1, y2⟩ := hy; go_simp) ?_
              try simp only [Act.put, List.setIfInBounds_toArray, List.set_cons_zero, List.set_cons_succ]
              refine anyH_take 13 89 (.bool false) SD rfl (by kernel_rfl) (by kernel_rfl) (by kernel_rfl) (fun _ _ _ h => h) (by rfl) (by intro y hy; obtain ⟨y0, y1, y2⟩ := hy; go_simp) ?_
              try simp only [Act.put, List.setIfInBounds_toArray, List.set_cons_zero, List.set_cons_succ]
              refine anyH_take 14 90 (.bool false) SD rfl (by kernel_rfl) (by kernel_rfl) (by kernel_rfl) (fun _ _ _ h => h) (by rfl) (by intro y hy; obtain ⟨y0, y1, y2⟩ := hy; go_simp) ?_
              try simp only [Act.put, List.setIfInBounds_toArray, List.set_cons_zero, List.set_cons_succ]
              refine anyH_take 15 91 (.bool false) SD rfl (by kernel_rfl) (by kernel_rfl) (by kernel_rfl) (fun _ _ _ h => h) (by rfl) (by intro y hy; obtain ⟨y0, y1, y2⟩ := hy; go_simp) ?_
              try simp only [Act.put, List.setIfInBounds_toArray, List.set_cons_zero, List.set_cons_succ]
              refine wpAnyH_done (by kernel_rfl) ?_ _
              go_wp2
              exact ⟨⟨k + 1, by omega, by go_num, (by rw [HCK.out]; try rfl), PZ, VZ⟩, by simp [intOf]; omega⟩
          · have E : k = 64 := by omega
            subst E
            have HMM : Hid (Tr.mapped t' = Tr.cntb t' 64) := rfl
            rw [HMM.out] at HMP
            generalize Tr.cntb t' 64 = cn at *
            have hnn : ((cn : Int) != (cn : Int)) = false := by simp
            clear hlt HGE HCN HCL HOKB HIN HMM
            go_wp2_with (first
              | (go_at_call 18; refine (HMP.out _ HP.out).mono ?_; rintro e8 w8 ⟨rfl, B8⟩; have P8 := Lib.hid (HP.out.next B8.out); have V8 : Hid (HvAt w8 g t'.b) := (below_kept B8.out HV.out)))
            exact ⟨⟨i + 1, by omega, by go_num, by rw [HT'.out]; exact P8, by rw [HT'.out]; exact V8⟩, by simp [intOf]; omega⟩
      · have V5 : Hid (HvAt w4 g t'.b) := by rw [hbb]; exact V4
        have P5 := P4
        clear HRB hat hbb U4 V4 P4 HFS HUP
        rcases hno with ⟨rfl, n0, n1, ha⟩ | k1 | ⟨k1, k0⟩ | ⟨k1, k0, n0⟩ | ⟨k1, k0, n0, n1⟩
        · go_upto_region 15 with (fail)
          clear G4 c0 c1 c2 c3
          go_wp2
          have HOKB := Lib.hid P5.out.at_.ok
          have HIN := Lib.hid P5.out.inv
          have HCN := Lib.hid (Tr.cnt_step t')
          have HCL := Lib.hid (Tr.cntb_le t')
          have HMP : Hid (∀ z, Pp w z b t' → Calls Try.prog 18 #[.pointer (some ⟨b, 0, none⟩)] z fun e w' => e = .returned (.int .i64 (Tr.mapped t' : Int)) ∧ Hid (Below z.heap.size z w')) := fun z h => pmapped_any z h.at_
          have HGE : Hid (∀ z (k : Nat), k < 64 → Pp w z b t' → Calls Try.prog 17 #[.pointer (some ⟨b, 0, none⟩), .int .i64 (k : Int)] z (RbSay (t'.b k) (decide (0 < (t'.b k).1)) z)) := fun z k hk h => by
            have q := pget_any (k : Int) z h.at_
            obtain ⟨e1, e2⟩ := Tr.get_in h.at_.tz k hk
            rw [e1, e2] at q
            exact q
          clear HRS HR1 hsR HC2
          go_loopw [7, 8] (fun v7 v8 wq => ∃ k : Nat, k ≤ 64 ∧ v8 = .int .i64 k ∧ v7 = .int .i64 ((Tr.cntb t' k : Nat) : Int) ∧ Hid (Pp w wq b t') ∧ Hid (HvAt wq g t'.b)) (fun _ v8 _ => 64 - (intOf v8).toNat)
          case atStart => exact ⟨0, by omega, rfl, rfl, P5, V5⟩
          case round =>
            clear P5 V5
            obtain ⟨k, hk, rfl, rfl, HP, HV⟩ := hrel
            by_cases hlt : k < 64
            · have hk0 : 0 ≤ (k : Int) := by omega
              have hk1 : (k : Int) < 64 := by omega
              have HG := Lib.hid (fun z h => HGE.out z k hlt h)
              have HCK := Lib.hid (HCN.out k)
              have hcl := HCL.out k
              have HVR : Hid (∀ y, HvAt y g t'.b → y.rangeAt g (k * 33) (rfA (t'.b k)).toList ∧ y.cell? ⟨g, k * 33, none⟩ = some (.int .i64 (t'.b k).1)) := fun y hy => ⟨hy.rng HOKB.out.1 k hlt, hy.rng HOKB.out.1 k hlt 0 _ rfl⟩
              obtain ⟨R, Z', eA, e33, hkR, _⟩ := rfz (HOKB.out.1 k)
              have heqz := rf_eqs (HOKB.out.1 k) (HOKB.out.1 k)
              rw [decide_eq_true rfl] at heqz
              have HQS := Lib.hid hkR.size
              have HQ1 := Lib.hid hkR.one
              have hsQ := row_size Try.sizeRef33 HQS
              unfold RbSay at HG
              rw [e33] at HG
              rw [eA] at HVR heqz
              obtain ⟨at2, hat2⟩ : ∃ a, (t'.b k).1 = a := ⟨_, rfl⟩
              rw [hat2] at HG HVR HCK
              obtain ⟨cn, hcn⟩ : ∃ cn, Tr.cntb t' k = cn := ⟨_, rfl⟩
              rw [hcn] at HCK hcl ⊢
              have hw9 : IntKind.i64.wrap ((cn : Int) + 1) = ((cn + 1 : Nat) : Int) := by rw [IntWalk.i64_in _ ⟨by omega, by omega⟩]; omega
              clear HGE HCN HCL hkR eA e33 hat2 hcn HOKB HMP hlt
              by_cases hpos : at2 > 0
              · rw [decide_eq_true (show 0 < at2 from hpos)] at HG
                rw [if_pos (show 0 < at2 from hpos)] at HCK
                go_upto_region 20 with (first
                  | (go_at_call 17; refine (HG.out _ HP.out).mono ?_; rintro e6 w6 ⟨rfl, B6⟩)
                  | ((with_reducible refine row_store _ _ _ _ _ _ _ ?_ ?_ (heap_alloc_new _ _) hsQ ?_ HQ1.out ?_); (exact rfl); (exact rfl); (rw [HQS.out, HZS.out]); intro w7 G7 ch7; have B7 := Lib.hid (ch7.below (B6.out.alloc B6.out.size _) B6.out.size); have P7 := Lib.hid (HP.out.next B7.out); have V7 : Hid (HvAt w7 g t'.b) := (below_kept B7.out HV.out)))
                refine wp_region_any (by kernel_rfl) ?_
                change wpAny _ _ _ _ _ _ _ (World.drew _)
                have PZ : Hid (Pp w w7.drew b t') := ⟨⟨P7.out.at_.box, P7.out.at_.ok, P7.out.at_.tz, P7.out.at_.lo⟩, P7.out.inv, P7.out.old.drew⟩
                have VZ : Hid (HvAt w7.drew g t'.b) := V7.out
                have GZ : Hid (w7.drew.heap[w6.heap.size]? = some (.cells R 33 (0, 0))) := G7.out
                obtain ⟨z, hz9⟩ : ∃ y, y = w7.drew := ⟨_, rfl⟩
                rw [← hz9] at PZ VZ GZ ⊢
                clear hz9
                refine wpAny_of_held (S := fun y => y.heap[w6.heap.size]? = some (.cells R 33 (0, 0)) ∧ y.rangeAt g (k * 33) R.toList ∧ y.cell? ⟨g, k * 33, none⟩ = some (.int .i64 at2)) _ _ _ _ ?_
                have SD : (fun y => y.heap[w6.heap.size]? = some (.cells R 33 (0, 0)) ∧ y.rangeAt g (k * 33) R.toList ∧ y.cell? ⟨g, k * 33, none⟩ = some (.int .i64 at2)) z := ⟨GZ.out, (HVR.out _ VZ.out).1, (HVR.out _ VZ.out).2⟩
                refine anyH_take 0 76 (.agg R) SD rfl (by kernel_rfl) (by kernel_rfl) (by kernel_rfl) (fun _ _ _ h => h) (by rfl) (fun y hy => exec_arr _ _ w6.heap.size 0 _ _ rfl (rng_whole hy.1) Try.underlying33 rfl hsQ) ?_
                try simp only [Act.put, List.setIfInBounds_toArray, List.set_cons_zero, List.set_cons_succ]
                refine anyH_take 1 77 (.slice (some ⟨g, 0, none⟩) 64 64) SD rfl (by kernel_rfl) (by kernel_rfl) (by kernel_rfl) (fun _ _ _ h => h) (by rfl) (by intro y hy; obtain ⟨y0, y1, y2⟩ := hy; go_simp) ?_
                try simp only [Act.put, List.setIfInBounds_toArray, List.set_cons_zero, List.set_cons_succ]
                refine anyH_take 2 78 (.int .i64 (k : Int)) SD rfl (by kernel_rfl) (by kernel_rfl) (by kernel_rfl) (fun _ _ _ h => h) (by rfl) (by intro y hy; obtain ⟨y0, y1, y2⟩ := hy; go_simp) ?_
                try simp only [Act.put, List.setIfInBounds_toArray, List.set_cons_zero, List.set_cons_succ]
                refine anyH_take 3 79 (.pointer (some ⟨g, k * 33, none⟩)) SD rfl (by kernel_rfl) (by kernel_rfl) (by kernel_rfl) (fun _ _ _ h => h) (by rfl) (by intro y hy; obtain ⟨y0, y1, y2⟩ := hy; go_simp) ?_
                try simp only [Act.put, List.setIfInBounds_toArray, List.set_cons_zero, List.set_cons_succ]
                refine anyH_take 4 80 (.agg R) SD rfl (by kernel_rfl) (by kernel_rfl) (by kernel_rfl) (fun _ _ _ h => h) (by rfl) (fun y hy => exec_arr _ _ g (k * 33) _ _ rfl hy.2.1 Try.underlying33 rfl hsQ) ?_
                try simp only [Act.put, List.setIfInBounds_toArray, List.set_cons_zero, List.set_cons_succ]
                refine anyH_take 5 81 (.bool false) SD rfl (by kernel_rfl) (by kernel_rfl) (by kernel_rfl) (fun _ _ _ h => h) (by rfl) (by intro y hy; obtain ⟨y0, y1, y2⟩ := hy; go_simp) ?_
                try simp only [Act.put, List.setIfInBounds_toArray, List.set_cons_zero, List.set_cons_succ]
                refine anyH_take 6 82 (.bool false) SD rfl (by kernel_rfl) (by kernel_rfl) (by kernel_rfl) (fun _ _ _ h => h) (by rfl) (by intro y hy; obtain ⟨y0, y1, y2⟩ := hy; go_simp) ?_
                try simp only [Act.put, List.setIfInBounds_toArray, List.set_cons_zero, List.set_cons_succ]
                refine anyH_take 7 83 (.bool true) SD rfl (by kernel_rfl) (by kernel_rfl) (by kernel_rfl) (fun _ _ _ h => h) (by rfl) (by intro y hy; obtain ⟨y0, y1, y2⟩ := hy; go_simp) ?_
                try simp only [Act.put, List.setIfInBounds_toArray, List.set_cons_zero, List.set_cons_succ]
                refine anyH_take 8 84 (.slice (some ⟨g, 0, none⟩) 64 64) SD rfl (by kernel_rfl) (by kernel_rfl) (by kernel_rfl) (fun _ _ _ h => h) (by rfl) (by intro y hy; obtain ⟨y0, y1, y2⟩ := hy; go_simp) ?_
                try simp only [Act.put, List.setIfInBounds_toArray, List.set_cons_zero, List.set_cons_succ]
                refine anyH_take 9 85 (.int .i64 (k : Int)) SD rfl (by kernel_rfl) (by kernel_rfl) (by kernel_rfl) (fun _ _ _ h => h) (by rfl) (by intro y hy; obtain ⟨y0, y1, y2⟩ := hy; go_simp) ?_
                try simp only [Act.put, List.setIfInBounds_toArray, List.set_cons_zero, List.set_cons_succ]
                refine anyH_take 10 86 (.pointer (some ⟨g, k * 33, none⟩)) SD rfl (by kernel_rfl) (by kernel_rfl) (by kernel_rfl) (fun _ _ _ h => h) (by rfl) (by intro y hy; obtain ⟨y0, y1, y2⟩ := hy; go_simp) ?_
                try simp only [Act.put, List.setIfInBounds_toArray, List.set_cons_zero, List.set_cons_succ]
                refine anyH_take 11 87 (.pointer (some ⟨g, k * 33, none⟩)) SD rfl (by kernel_rfl) (by kernel_rfl) (by kernel_rfl) (fun _ _ _ h => h) (by rfl) (by intro y hy; obtain ⟨y0, y1, y2⟩ := hy; go_simp) ?_
                try simp only [Act.put, List.setIfInBounds_toArray, List.set_cons_zero, List.set_cons_succ]
                refine anyH_take 12 88 (.int .i64 at2) SD rfl (by kernel_rfl) (by kernel_rfl) (by kernel_rfl) (fun _ _ _ h => h) (by rfl) (by intro y hy; obtain ⟨y0, y1, y2⟩ := hy; go_simp) ?_
                try simp only [Act.put, List.setIfInBounds_toArray, List.set_cons_zero, List.set_cons_succ]
                refine anyH_take 13 89 (.bool true) SD rfl (by kernel_rfl) (by kernel_rfl) (by kernel_rfl) (fun _ _ _ h => h) (by rfl) (by intro y hy; obtain ⟨y0, y1, y2⟩ := hy; go_simp) ?_
                try simp only [Act.put, List.setIfInBounds_toArray, List.set_cons_zero, List.set_cons_succ]
                refine anyH_take 14 90 (.bool false) SD rfl (by kernel_rfl) (by kernel_rfl) (by kernel_rfl) (fun _ _ _ h => h) (by rfl) (by intro y hy; obtain ⟨y0, y1, y2⟩ := hy; go_simp) ?_
                try simp only [Act.put, List.setIfInBounds_toArray, List.set_cons_zero, List.set_cons_succ]
                refine anyH_take 15 91 (.bool false) SD rfl (by kernel_rfl) (by kernel_rfl) (by kernel_rfl) (fun _ _ _ h => h) (by rfl) (by intro y hy; obtain ⟨y0, y1, y2⟩ := hy; go_simp) ?_
                try simp only [Act.put, List.setIfInBounds_toArray, List.set_cons_zero, List.set_cons_succ]
                refine wpAnyH_done (by kernel_rfl) ?_ _
                go_wp2
                exact ⟨⟨k + 1, by omega, by go_num, (by rw [HCK.out]; go_num), PZ, VZ⟩, by simp [intOf]; omega⟩
              · rw [decide_eq_false (show ¬ 0 < at2 from hpos)] at HG
                rw [if_neg (show ¬ 0 < at2 from hpos)] at HCK
                go_upto_region 20 with (first
                  | (go_at_call 17; refine (HG.out _ HP.out).mono ?_; rintro e6 w6 ⟨rfl, B6⟩)
                  | ((with_reducible refine row_store _ _ _ _ _ _ _ ?_ ?_ (heap_alloc_new _ _) hsQ ?_ HQ1.out ?_); (exact rfl); (exact rfl); (rw [HQS.out, HZS.out]); intro w7 G7 ch7; have B7 := Lib.hid (ch7.below (B6.out.alloc B6.out.size _) B6.out.size); have P7 := Lib.hid (HP.out.next B7.out); have V7 : Hid (HvAt w7 g t'.b) := (below_kept B7.out HV.out)))
                refine wp_region_any (by kernel_rfl) ?_
                change wpAny _ _ _ _ _ _ _ (World.drew _)
                have PZ : Hid (Pp w w7.drew b t') := ⟨⟨P7.out.at_.box, P7.out.at_.ok, P7.out.at_.tz, P7.out.at_.lo⟩, P7.out.inv, P7.out.old.drew⟩
                have VZ : Hid (HvAt w7.drew g t'.b) := V7.out
                have GZ : Hid (w7.drew.heap[w6.heap.size]? = some (.cells R 33 (0, 0))) := G7.out
                obtain ⟨z, hz9⟩ : ∃ y, y = w7.drew := ⟨_, rfl⟩
                rw [← hz9] at PZ VZ GZ ⊢
                clear hz9
                refine wpAny_of_held (S := fun y => y.heap[w6.heap.size]? = some (.cells R 33 (0, 0)) ∧ y.rangeAt g (k * 33) R.toList ∧ y.cell? ⟨g, k * 33, none⟩ = some (.int .i64 at2)) _ _ _ _ ?_
                have SD : (fun y => y.heap[w6.heap.size]? = some (.cells R 33 (0, 0)) ∧ y.rangeAt g (k * 33) R.toList ∧ y.cell? ⟨g, k * 33, none⟩ = some (.int .i64 at2)) z := ⟨GZ.out, (HVR.out _ VZ.out).1, (HVR.out _ VZ.out).2⟩
                refine anyH_take 0 76 (.agg R) SD rfl (by kernel_rfl) (by kernel_rfl) (by kernel_rfl) (fun _ _ _ h => h) (by rfl) (fun y hy => exec_arr _ _ w6.heap.size 0 _ _ rfl (rng_whole hy.1) Try.underlying33 rfl hsQ) ?_
                try simp only [Act.put, List.setIfInBounds_toArray, List.set_cons_zero, List.set_cons_succ]
                refine anyH_take 1 77 (.slice (some ⟨g, 0, none⟩) 64 64) SD rfl (by kernel_rfl) (by kernel_rfl) (by kernel_rfl) (fun _ _ _ h => h) (by rfl) (by intro y hy; obtain ⟨y0, y1, y2⟩ := hy; go_simp) ?_
                try simp only [Act.put, List.setIfInBounds_toArray, List.set_cons_zero, List.set_cons_succ]
                refine anyH_take 2 78 (.int .i64 (k : Int)) SD rfl (by kernel_rfl) (by kernel_rfl) (by kernel_rfl) (fun _ _ _ h => h) (by rfl) (by intro y hy; obtain ⟨y0, y1, y2⟩ := hy; go_simp) ?_
                try simp only [Act.put, List.setIfInBounds_toArray, List.set_cons_zero, List.set_cons_succ]
                refine anyH_take 3 79 (.pointer (some ⟨g, k * 33, none⟩)) SD rfl (by kernel_rfl) (by kernel_rfl) (by kernel_rfl) (fun _ _ _ h => h) (by rfl) (by intro y hy; obtain ⟨y0, y1, y2⟩ := hy; go_simp) ?_
                try simp only [Act.put, List.setIfInBounds_toArray, List.set_cons_zero, List.set_cons_succ]
                refine anyH_take 4 80 (.agg R) SD rfl (by kernel_rfl) (by kernel_rfl) (by kernel_rfl) (fun _ _ _ h => h) (by rfl) (fun y hy => exec_arr _ _ g (k * 33) _ _ rfl hy.2.1 Try.underlying33 rfl hsQ) ?_
                try simp only [Act.put, List.setIfInBounds_toArray, List.set_cons_zero, List.set_cons_succ]
                refine anyH_take 5 81 (.bool false) SD rfl (by kernel_rfl) (by kernel_rfl) (by kernel_rfl) (fun _ _ _ h => h) (by rfl) (by intro y hy; obtain ⟨y0, y1, y2⟩ := hy; go_simp) ?_
                try simp only [Act.put, List.setIfInBounds_toArray, List.set_cons_zero, List.set_cons_succ]
                refine anyH_take 6 82 (.bool false) SD rfl (by kernel_rfl) (by kernel_rfl) (by kernel_rfl) (fun _ _ _ h => h) (by rfl) (by intro y hy; obtain ⟨y0, y1, y2⟩ := hy; go_simp) ?_
                try simp only [Act.put, List.setIfInBounds_toArray, List.set_cons_zero, List.set_cons_succ]
                refine anyH_take 7 83 (.bool false) SD rfl (by kernel_rfl) (by kernel_rfl) (by kernel_rfl) (fun _ _ _ h => h) (by rfl) (by intro y hy; obtain ⟨y0, y1, y2⟩ := hy; go_simp) ?_
                try simp only [Act.put, List.setIfInBounds_toArray, List.set_cons_zero, List.set_cons_succ]
                refine anyH_take 8 84 (.slice (some ⟨g, 0, none⟩) 64 64) SD rfl (by kernel_rfl) (by kernel_rfl) (by kernel_rfl) (fun _ _ _ h => h) (by rfl) (by intro y hy; obtain ⟨y0, y1, y2⟩ := hy; go_simp) ?_
                try simp only [Act.put, List.setIfInBounds_toArray, List.set_cons_zero, List.set_cons_succ]
                refine anyH_take 9 85 (.int .i64 (k : Int)) SD rfl (by kernel_rfl) (by kernel_rfl) (by kernel_rfl) (fun _ _ _ h => h) (by rfl) (by intro y hy; obtain ⟨y0, y1, y2⟩ := hy; go_simp) ?_
                try simp only [Act.put, List.setIfInBounds_toArray, List.set_cons_zero, List.set_cons_succ]
                refine anyH_take 10 86 (.pointer (some ⟨g, k * 33, none⟩)) SD rfl (by kernel_rfl) (by kernel_rfl) (by kernel_rfl) (fun _ _ _ h => h) (by rfl) (by intro y hy; obtain ⟨y0, y1, y2⟩ := hy; go_simp) ?_
                try simp only [Act.put, List.setIfInBounds_toArray, List.set_cons_zero, List.set_cons_succ]
                refine anyH_take 11 87 (.pointer (some ⟨g, k * 33, none⟩)) SD rfl (by kernel_rfl) (by kernel_rfl) (by kernel_rfl) (fun _ _ _ h => h) (by rfl) (by intro y hy; obtain ⟨y0, y1, y2⟩ := hy; go_simp) ?_
                try simp only [Act.put, List.setIfInBounds_toArray, List.set_cons_zero, List.set_cons_succ]
                refine anyH_take 12 88 (.int .i64 at2) SD rfl (by kernel_rfl) (by kernel_rfl) (by kernel_rfl) (fun _ _ _ h => h) (by rfl) (by intro y hy; obtain ⟨y0, y1, y2⟩ := hy; go_simp) ?_
                try simp only [Act.put, List.setIfInBounds_toArray, List.set_cons_zero, List.set_cons_succ]
                refine anyH_take 13 89 (.bool false) SD rfl (by kernel_rfl) (by kernel_rfl) (by kernel_rfl) (fun _ _ _ h => h) (by rfl) (by intro y hy; obtain ⟨y0, y1, y2⟩ := hy; go_simp) ?_
                try simp only [Act.put, List.setIfInBounds_toArray, List.set_cons_zero, List.set_cons_succ]
                refine anyH_take 14 90 (.bool false) SD rfl (by kernel_rfl) (by kernel_rfl) (by kernel_rfl) (fun _ _ _ h => h) (by rfl) (by intro y hy; obtain ⟨y0, y1, y2⟩ := hy; go_simp) ?_
                try simp only [Act.put, List.setIfInBounds_toArray, List.set_cons_zero, List.set_cons_succ]
                refine anyH_take 15 91 (.bool false) SD rfl (by kernel_rfl) (by kernel_rfl) (by kernel_rfl) (fun _ _ _ h => h) (by rfl) (by intro y hy; obtain ⟨y0, y1, y2⟩ := hy; go_simp) ?_
                try simp only [Act.put, List.setIfInBounds_toArray, List.set_cons_zero, List.set_cons_succ]
                refine wpAnyH_done (by kernel_rfl) ?_ _
                go_wp2
                exact ⟨⟨k + 1, by omega, by go_num, (by rw [HCK.out]; try rfl), PZ, VZ⟩, by simp [intOf]; omega⟩
            · have E : k = 64 := by omega
              subst E
              have HMM : Hid (Tr.mapped t' = Tr.cntb t' 64) := rfl
              rw [HMM.out] at HMP
              generalize Tr.cntb t' 64 = cn at *
              have hnn : ((cn : Int) != (cn : Int)) = false := by simp
              clear hlt HGE HCN HCL HOKB HIN HMM
              go_wp2_with (first
                | (go_at_call 18; refine (HMP.out _ HP.out).mono ?_; rintro e8 w8 ⟨rfl, B8⟩; have P8 := Lib.hid (HP.out.next B8.out); have V8 : Hid (HvAt w8 g t'.b) := (below_kept B8.out HV.out)))
              exact ⟨⟨i + 1, by omega, by go_num, by rw [HT'.out]; exact P8, by rw [HT'.out]; exact V8⟩, by simp [intOf]; omega⟩
        · go_upto_region 15 with (fail)
          clear G4 c0 c1 c2 c3
          go_wp2
          have HOKB := Lib.hid P5.out.at_.ok
          have HIN := Lib.hid P5.out.inv
          have HCN := Lib.hid (Tr.cnt_step t')
          have HCL := Lib.hid (Tr.cntb_le t')
          have HMP : Hid (∀ z, Pp w z b t' → Calls Try.prog 18 #[.pointer (some ⟨b, 0, none⟩)] z fun e w' => e = .returned (.int .i64 (Tr.mapped t' : Int)) ∧ Hid (Below z.heap.size z w')) := fun z h => pmapped_any z h.at_
          have HGE : Hid (∀ z (k : Nat), k < 64 → Pp w z b t' → Calls Try.prog 17 #[.pointer (some ⟨b, 0, none⟩), .int .i64 (k : Int)] z (RbSay (t'.b k) (decide (0 < (t'.b k).1)) z)) := fun z k hk h => by
            have q := pget_any (k : Int) z h.at_
            obtain ⟨e1, e2⟩ := Tr.get_in h.at_.tz k hk
            rw [e1, e2] at q
            exact q
          clear HRS HR1 hsR HC2
          go_loopw [7, 8] (fun v7 v8 wq => ∃ k : Nat, k ≤ 64 ∧ v8 = .int .i64 k ∧ v7 = .int .i64 ((Tr.cntb t' k : Nat) : Int) ∧ Hid (Pp w wq b t') ∧ Hid (HvAt wq g t'.b)) (fun _ v8 _ => 64 - (intOf v8).toNat)
          case atStart => exact ⟨0, by omega, rfl, rfl, P5, V5⟩
          case round =>
            clear P5 V5
            obtain ⟨k, hk, rfl, rfl, HP, HV⟩ := hrel
            by_cases hlt : k < 64
            · have hk0 : 0 ≤ (k : Int) := by omega
              have hk1 : (k : Int) < 64 := by omega
              have HG := Lib.hid (fun z h => HGE.out z k hlt h)
              have HCK := Lib.hid (HCN.out k)
              have hcl := HCL.out k
              have HVR : Hid (∀ y, HvAt y g t'.b → y.rangeAt g (k * 33) (rfA (t'.b k)).toList ∧ y.cell? ⟨g, k * 33, none⟩ = some (.int .i64 (t'.b k).1)) := fun y hy => ⟨hy.rng HOKB.out.1 k hlt, hy.rng HOKB.out.1 k hlt 0 _ rfl⟩
              obtain ⟨R, Z', eA, e33, hkR, _⟩ := rfz (HOKB.out.1 k)
              have heqz := rf_eqs (HOKB.out.1 k) (HOKB.out.1 k)
              rw [decide_eq_true rfl] at heqz
              have HQS := Lib.hid hkR.size
              have HQ1 := Lib.hid hkR.one
              have hsQ := row_size Try.sizeRef33 HQS
              unfold RbSay at HG
              rw [e33] at HG
              rw [eA] at HVR heqz
              obtain ⟨at2, hat2⟩ : ∃ a, (t'.b k).1 = a := ⟨_, rfl⟩
              rw [hat2] at HG HVR HCK
              obtain ⟨cn, hcn⟩ : ∃ cn, Tr.cntb t' k = cn := ⟨_, rfl⟩
              rw [hcn] at HCK hcl ⊢
              have hw9 : IntKind.i64.wrap ((cn : Int) + 1) = ((cn + 1 : Nat) : Int) := by rw [IntWalk.i64_in _ ⟨by omega, by omega⟩]; omega
              clear HGE HCN HCL hkR eA e33 hat2 hcn HOKB HMP hlt
              by_cases hpos : at2 > 0
              · rw [decide_eq_true (show 0 < at2 from hpos)] at HG
                rw [if_pos (show 0 < at2 from hpos)] at HCK
                go_upto_region 20 with (first
                  | (go_at_call 17; refine (HG.out _ HP.out).mono ?_; rintro e6 w6 ⟨rfl, B6⟩)
                  | ((with_reducible refine row_store _ _ _ _ _ _ _ ?_ ?_ (heap_alloc_new _ _) hsQ ?_ HQ1.out ?_); (exact rfl); (exact rfl); (rw [HQS.out, HZS.out]); intro w7 G7 ch7; have B7 := Lib.hid (ch7.below (B6.out.alloc B6.out.size _) B6.out.size); have P7 := Lib.hid (HP.out.next B7.out); have V7 : Hid (HvAt w7 g t'.b) := (below_kept B7.out HV.out)))
                refine wp_region_any (by kernel_rfl) ?_
                change wpAny _ _ _ _ _ _ _ (World.drew _)
                have PZ : Hid (Pp w w7.drew b t') := ⟨⟨P7.out.at_.box, P7.out.at_.ok, P7.out.at_.tz, P7.out.at_.lo⟩, P7.out.inv, P7.out.old.drew⟩
                have VZ : Hid (HvAt w7.drew g t'.b) := V7.out
                have GZ : Hid (w7.drew.heap[w6.heap.size]? = some (.cells R 33 (0, 0))) := G7.out
                obtain ⟨z, hz9⟩ : ∃ y, y = w7.drew := ⟨_, rfl⟩
                rw [← hz9] at PZ VZ GZ ⊢
                clear hz9
                refine wpAny_of_held (S := fun y => y.heap[w6.heap.size]? = some (.cells R 33 (0, 0)) ∧ y.rangeAt g (k * 33) R.toList ∧ y.cell? ⟨g, k * 33, none⟩ = some (.int .i64 at2)) _ _ _ _ ?_
                have SD : (fun y => y.heap[w6.heap.size]? = some (.cells R 33 (0, 0)) ∧ y.rangeAt g (k * 33) R.toList ∧ y.cell? ⟨g, k * 33, none⟩ = some (.int .i64 at2)) z := ⟨GZ.out, (HVR.out _ VZ.out).1, (HVR.out _ VZ.out).2⟩
                refine anyH_take 0 76 (.agg R) SD rfl (by kernel_rfl) (by kernel_rfl) (by kernel_rfl) (fun _ _ _ h => h) (by rfl) (fun y hy => exec_arr _ _ w6.heap.size 0 _ _ rfl (rng_whole hy.1) Try.underlying33 rfl hsQ) ?_
                try simp only [Act.put, List.setIfInBounds_toArray, List.set_cons_zero, List.set_cons_succ]
                refine anyH_take 1 77 (.slice (some ⟨g, 0, none⟩) 64 64) SD rfl (by kernel_rfl) (by kernel_rfl) (by kernel_rfl) (fun _ _ _ h => h) (by rfl) (by intro y hy; obtain ⟨y0, y1, y2⟩ := hy; go_simp) ?_
                try simp only [Act.put, List.setIfInBounds_toArray, List.set_cons_zero, List.set_cons_succ]
                refine anyH_take 2 78 (.int .i64 (k : Int)) SD rfl (by kernel_rfl) (by kernel_rfl) (by kernel_rfl) (fun _ _ _ h => h) (by rfl) (by intro y hy; obtain ⟨y0, y1, y2⟩ := hy; go_simp) ?_
                try simp only [Act.put, List.setIfInBounds_toArray, List.set_cons_zero, List.set_cons_succ]
                refine anyH_take 3 79 (.pointer (some ⟨g, k * 33, none⟩)) SD rfl (by kernel_rfl) (by kernel_rfl) (by kernel_rfl) (fun _ _ _ h => h) (by rfl) (by intro y hy; obtain ⟨y0, y1, y2⟩ := hy; go_simp) ?_
                try simp only [Act.put, List.setIfInBounds_toArray, List.set_cons_zero, List.set_cons_succ]
                refine anyH_take 4 80 (.agg R) SD rfl (by kernel_rfl) (by kernel_rfl) (by kernel_rfl) (fun _ _ _ h => h) (by rfl) (fun y hy => exec_arr _ _ g (k * 33) _ _ rfl hy.2.1 Try.underlying33 rfl hsQ) ?_
                try simp only [Act.put, List.setIfInBounds_toArray, List.set_cons_zero, List.set_cons_succ]
                refine anyH_take 5 81 (.bool false) SD rfl (by kernel_rfl) (by kernel_rfl) (by kernel_rfl) (fun _ _ _ h => h) (by rfl) (by intro y hy; obtain ⟨y0, y1, y2⟩ := hy; go_simp) ?_
                try simp only [Act.put, List.setIfInBounds_toArray, List.set_cons_zero, List.set_cons_succ]
                refine anyH_take 6 82 (.bool false) SD rfl (by kernel_rfl) (by kernel_rfl) (by kernel_rfl) (fun _ _ _ h => h) (by rfl) (by intro y hy; obtain ⟨y0, y1, y2⟩ := hy; go_simp) ?_
                try simp only [Act.put, List.setIfInBounds_toArray, List.set_cons_zero, List.set_cons_succ]
                refine anyH_take 7 83 (.bool true) SD rfl (by kernel_rfl) (by kernel_rfl) (by kernel_rfl) (fun _ _ _ h => h) (by rfl) (by intro y hy; obtain ⟨y0, y1, y2⟩ := hy; go_simp) ?_
                try simp only [Act.put, List.setIfInBounds_toArray, List.set_cons_zero, List.set_cons_succ]
                refine anyH_take 8 84 (.slice (some ⟨g, 0, none⟩) 64 64) SD rfl (by kernel_rfl) (by kernel_rfl) (by kernel_rfl) (fun _ _ _ h => h) (by rfl) (by intro y hy; obtain ⟨y0, y1, y2⟩ := hy; go_simp) ?_
                try simp only [Act.put, List.setIfInBounds_toArray, List.set_cons_zero, List.set_cons_succ]
                refine anyH_take 9 85 (.int .i64 (k : Int)) SD rfl (by kernel_rfl) (by kernel_rfl) (by kernel_rfl) (fun _ _ _ h => h) (by rfl) (by intro y hy; obtain ⟨y0, y1, y2⟩ := hy; go_simp) ?_
                try simp only [Act.put, List.setIfInBounds_toArray, List.set_cons_zero, List.set_cons_succ]
                refine anyH_take 10 86 (.pointer (some ⟨g, k * 33, none⟩)) SD rfl (by kernel_rfl) (by kernel_rfl) (by kernel_rfl) (fun _ _ _ h => h) (by rfl) (by intro y hy; obtain ⟨y0, y1, y2⟩ := hy; go_simp) ?_
                try simp only [Act.put, List.setIfInBounds_toArray, List.set_cons_zero, List.set_cons_succ]
                refine anyH_take 11 87 (.pointer (some ⟨g, k * 33, none⟩)) SD rfl (by kernel_rfl) (by kernel_rfl) (by kernel_rfl) (fun _ _ _ h => h) (by rfl) (by intro y hy; obtain ⟨y0, y1, y2⟩ := hy; go_simp) ?_
                try simp only [Act.put, List.setIfInBounds_toArray, List.set_cons_zero, List.set_cons_succ]
                refine anyH_take 12 88 (.int .i64 at2) SD rfl (by kernel_rfl) (by kernel_rfl) (by kernel_rfl) (fun _ _ _ h => h) (by rfl) (by intro y hy; obtain ⟨y0, y1, y2⟩ := hy; go_simp) ?_
                try simp only [Act.put, List.setIfInBounds_toArray, List.set_cons_zero, List.set_cons_succ]
                refine anyH_take 13 89 (.bool true) SD rfl (by kernel_rfl) (by kernel_rfl) (by kernel_rfl) (fun _ _ _ h => h) (by rfl) (by intro y hy; obtain ⟨y0, y1, y2⟩ := hy; go_simp) ?_
                try simp only [Act.put, List.setIfInBounds_toArray, List.set_cons_zero, List.set_cons_succ]
                refine anyH_take 14 90 (.bool false) SD rfl (by kernel_rfl) (by kernel_rfl) (by kernel_rfl) (fun _ _ _ h => h) (by rfl) (by intro y hy; obtain ⟨y0, y1, y2⟩ := hy; go_simp) ?_
                try simp only [Act.put, List.setIfInBounds_toArray, List.set_cons_zero, List.set_cons_succ]
                refine anyH_take 15 91 (.bool false) SD rfl (by kernel_rfl) (by kernel_rfl) (by kernel_rfl) (fun _ _ _ h => h) (by rfl) (by intro y hy; obtain ⟨y0, y1, y2⟩ := hy; go_simp) ?_
                try simp only [Act.put, List.setIfInBounds_toArray, List.set_cons_zero, List.set_cons_succ]
                refine wpAnyH_done (by kernel_rfl) ?_ _
                go_wp2
                exact ⟨⟨k + 1, by omega, by go_num, (by rw [HCK.out]; go_num), PZ, VZ⟩, by simp [intOf]; omega⟩
              · rw [decide_eq_false (show ¬ 0 < at2 from hpos)] at HG
                rw [if_neg (show ¬ 0 < at2 from hpos)] at HCK
                go_upto_region 20 with (first
                  | (go_at_call 17; refine (HG.out _ HP.out).mono ?_; rintro e6 w6 ⟨rfl, B6⟩)
                  | ((with_reducible refine row_store _ _ _ _ _ _ _ ?_ ?_ (heap_alloc_new _ _) hsQ ?_ HQ1.out ?_); (exact rfl); (exact rfl); (rw [HQS.out, HZS.out]); intro w7 G7 ch7; have B7 := Lib.hid (ch7.below (B6.out.alloc B6.out.size _) B6.out.size); have P7 := Lib.hid (HP.out.next B7.out); have V7 : Hid (HvAt w7 g t'.b) := (below_kept B7.out HV.out)))
                refine wp_region_any (by kernel_rfl) ?_
                change wpAny _ _ _ _ _ _ _ (World.drew _)
                have PZ : Hid (Pp w w7.drew b t') := ⟨⟨P7.out.at_.box, P7.out.at_.ok, P7.out.at_.tz, P7.out.at_.lo⟩, P7.out.inv, P7.out.old.drew⟩
                have VZ : Hid (HvAt w7.drew g t'.b) := V7.out
                have GZ : Hid (w7.drew.heap[w6.heap.size]? = some (.cells R 33 (0, 0))) := G7.out
                obtain ⟨z, hz9⟩ : ∃ y, y = w7.drew := ⟨_, rfl⟩
                rw [← hz9] at PZ VZ GZ ⊢
                clear hz9
                refine wpAny_of_held (S := fun y => y.heap[w6.heap.size]? = some (.cells R 33 (0, 0)) ∧ y.rangeAt g (k * 33) R.toList ∧ y.cell? ⟨g, k * 33, none⟩ = some (.int .i64 at2)) _ _ _ _ ?_
                have SD : (fun y => y.heap[w6.heap.size]? = some (.cells R 33 (0, 0)) ∧ y.rangeAt g (k * 33) R.toList ∧ y.cell? ⟨g, k * 33, none⟩ = some (.int .i64 at2)) z := ⟨GZ.out, (HVR.out _ VZ.out).1, (HVR.out _ VZ.out).2⟩
                refine anyH_take 0 76 (.agg R) SD rfl (by kernel_rfl) (by kernel_rfl) (by kernel_rfl) (fun _ _ _ h => h) (by rfl) (fun y hy => exec_arr _ _ w6.heap.size 0 _ _ rfl (rng_whole hy.1) Try.underlying33 rfl hsQ) ?_
                try simp only [Act.put, List.setIfInBounds_toArray, List.set_cons_zero, List.set_cons_succ]
                refine anyH_take 1 77 (.slice (some ⟨g, 0, none⟩) 64 64) SD rfl (by kernel_rfl) (by kernel_rfl) (by kernel_rfl) (fun _ _ _ h => h) (by rfl) (by intro y hy; obtain ⟨y0, y1, y2⟩ := hy; go_simp) ?_
                try simp only [Act.put, List.setIfInBounds_toArray, List.set_cons_zero, List.set_cons_succ]
                refine anyH_take 2 78 (.int .i64 (k : Int)) SD rfl (by kernel_rfl) (by kernel_rfl) (by kernel_rfl) (fun _ _ _ h => h) (by rfl) (by intro y hy; obtain ⟨y0, y1, y2⟩ := hy; go_simp) ?_
                try simp only [Act.put, List.setIfInBounds_toArray, List.set_cons_zero, List.set_cons_succ]
                refine anyH_take 3 79 (.pointer (some ⟨g, k * 33, none⟩)) SD rfl (by kernel_rfl) (by kernel_rfl) (by kernel_rfl) (fun _ _ _ h => h) (by rfl) (by intro y hy; obtain ⟨y0, y1, y2⟩ := hy; go_simp) ?_
                try simp only [Act.put, List.setIfInBounds_toArray, List.set_cons_zero, List.set_cons_succ]
                refine anyH_take 4 80 (.agg R) SD rfl (by kernel_rfl) (by kernel_rfl) (by kernel_rfl) (fun _ _ _ h => h) (by rfl) (fun y hy => exec_arr _ _ g (k * 33) _ _ rfl hy.2.1 Try.underlying33 rfl hsQ) ?_
                try simp only [Act.put, List.setIfInBounds_toArray, List.set_cons_zero, List.set_cons_succ]
                refine anyH_take 5 81 (.bool false) SD rfl (by kernel_rfl) (by kernel_rfl) (by kernel_rfl) (fun _ _ _ h => h) (by rfl) (by intro y hy; obtain ⟨y0, y1, y2⟩ := hy; go_simp) ?_
                try simp only [Act.put, List.setIfInBounds_toArray, List.set_cons_zero, List.set_cons_succ]
                refine anyH_take 6 82 (.bool false) SD rfl (by kernel_rfl) (by kernel_rfl) (by kernel_rfl) (fun _ _ _ h => h) (by rfl) (by intro y hy; obtain ⟨y0, y1, y2⟩ := hy; go_simp) ?_
                try simp only [Act.put, List.setIfInBounds_toArray, List.set_cons_zero, List.set_cons_succ]
                refine anyH_take 7 83 (.bool false) SD rfl (by kernel_rfl) (by kernel_rfl) (by kernel_rfl) (fun _ _ _ h => h) (by rfl) (by intro y hy; obtain ⟨y0, y1, y2⟩ := hy; go_simp) ?_
                try simp only [Act.put, List.setIfInBounds_toArray, List.set_cons_zero, List.set_cons_succ]
                refine anyH_take 8 84 (.slice (some ⟨g, 0, none⟩) 64 64) SD rfl (by kernel_rfl) (by kernel_rfl) (by kernel_rfl) (fun _ _ _ h => h) (by rfl) (by intro y hy; obtain ⟨y0, y1, y2⟩ := hy; go_simp) ?_
                try simp only [Act.put, List.setIfInBounds_toArray, List.set_cons_zero, List.set_cons_succ]
                refine anyH_take 9 85 (.int .i64 (k : Int)) SD rfl (by kernel_rfl) (by kernel_rfl) (by kernel_rfl) (fun _ _ _ h => h) (by rfl) (by intro y hy; obtain ⟨y0, y1, y2⟩ := hy; go_simp) ?_
                try simp only [Act.put, List.setIfInBounds_toArray, List.set_cons_zero, List.set_cons_succ]
                refine anyH_take 10 86 (.pointer (some ⟨g, k * 33, none⟩)) SD rfl (by kernel_rfl) (by kernel_rfl) (by kernel_rfl) (fun _ _ _ h => h) (by rfl) (by intro y hy; obtain ⟨y0, y1, y2⟩ := hy; go_simp) ?_
                try simp only [Act.put, List.setIfInBounds_toArray, List.set_cons_zero, List.set_cons_succ]
                refine anyH_take 11 87 (.pointer (some ⟨g, k * 33, none⟩)) SD rfl (by kernel_rfl) (by kernel_rfl) (by kernel_rfl) (fun _ _ _ h => h) (by rfl) (by intro y hy; obtain ⟨y0, y1, y2⟩ := hy; go_simp) ?_
                try simp only [Act.put, List.setIfInBounds_toArray, List.set_cons_zero, List.set_cons_succ]
                refine anyH_take 12 88 (.int .i64 at2) SD rfl (by kernel_rfl) (by kernel_rfl) (by kernel_rfl) (fun _ _ _ h => h) (by rfl) (by intro y hy; obtain ⟨y0, y1, y2⟩ := hy; go_simp) ?_
                try simp only [Act.put, List.setIfInBounds_toArray, List.set_cons_zero, List.set_cons_succ]
                refine anyH_take 13 89 (.bool false) SD rfl (by kernel_rfl) (by kernel_rfl) (by kernel_rfl) (fun _ _ _ h => h) (by rfl) (by intro y hy; obtain ⟨y0, y1, y2⟩ := hy; go_simp) ?_
                try simp only [Act.put, List.setIfInBounds_toArray, List.set_cons_zero, List.set_cons_succ]
                refine anyH_take 14 90 (.bool false) SD rfl (by kernel_rfl) (by kernel_rfl) (by kernel_rfl) (fun _ _ _ h => h) (by rfl) (by intro y hy; obtain ⟨y0, y1, y2⟩ := hy; go_simp) ?_
                try simp only [Act.put, List.setIfInBounds_toArray, List.set_cons_zero, List.set_cons_succ]
                refine anyH_take 15 91 (.bool false) SD rfl (by kernel_rfl) (by kernel_rfl) (by kernel_rfl) (fun _ _ _ h => h) (by rfl) (by intro y hy; obtain ⟨y0, y1, y2⟩ := hy; go_simp) ?_
                try simp only [Act.put, List.setIfInBounds_toArray, List.set_cons_zero, List.set_cons_succ]
                refine wpAnyH_done (by kernel_rfl) ?_ _
                go_wp2
                exact ⟨⟨k + 1, by omega, by go_num, (by rw [HCK.out]; try rfl), PZ, VZ⟩, by simp [intOf]; omega⟩
            · have E : k = 64 := by omega
              subst E
              have HMM : Hid (Tr.mapped t' = Tr.cntb t' 64) := rfl
              rw [HMM.out] at HMP
              generalize Tr.cntb t' 64 = cn at *
              have hnn : ((cn : Int) != (cn : Int)) = false := by simp
              clear hlt HGE HCN HCL HOKB HIN HMM
              go_wp2_with (first
                | (go_at_call 18; refine (HMP.out _ HP.out).mono ?_; rintro e8 w8 ⟨rfl, B8⟩; have P8 := Lib.hid (HP.out.next B8.out); have V8 : Hid (HvAt w8 g t'.b) := (below_kept B8.out HV.out)))
              exact ⟨⟨i + 1, by omega, by go_num, by rw [HT'.out]; exact P8, by rw [HT'.out]; exact V8⟩, by simp [intOf]; omega⟩
        · go_upto_region 15 with (fail)
          clear G4 c0 c1 c2 c3
          go_wp2
          have HOKB := Lib.hid P5.out.at_.ok
          have HIN := Lib.hid P5.out.inv
          have HCN := Lib.hid (Tr.cnt_step t')
          have HCL := Lib.hid (Tr.cntb_le t')
          have HMP : Hid (∀ z, Pp w z b t' → Calls Try.prog 18 #[.pointer (some ⟨b, 0, none⟩)] z fun e w' => e = .returned (.int .i64 (Tr.mapped t' : Int)) ∧ Hid (Below z.heap.size z w')) := fun z h => pmapped_any z h.at_
          have HGE : Hid (∀ z (k : Nat), k < 64 → Pp w z b t' → Calls Try.prog 17 #[.pointer (some ⟨b, 0, none⟩), .int .i64 (k : Int)] z (RbSay (t'.b k) (decide (0 < (t'.b k).1)) z)) := fun z k hk h => by
            have q := pget_any (k : Int) z h.at_
            obtain ⟨e1, e2⟩ := Tr.get_in h.at_.tz k hk
            rw [e1, e2] at q
            exact q
          clear HRS HR1 hsR HC2
          go_loopw [7, 8] (fun v7 v8 wq => ∃ k : Nat, k ≤ 64 ∧ v8 = .int .i64 k ∧ v7 = .int .i64 ((Tr.cntb t' k : Nat) : Int) ∧ Hid (Pp w wq b t') ∧ Hid (HvAt wq g t'.b)) (fun _ v8 _ => 64 - (intOf v8).toNat)
          case atStart => exact ⟨0, by omega, rfl, rfl, P5, V5⟩
          case round =>
            clear P5 V5
            obtain ⟨k, hk, rfl, rfl, HP, HV⟩ := hrel
            by_cases hlt : k < 64
            · have hk0 : 0 ≤ (k : Int) := by omega
              have hk1 : (k : Int) < 64 := by omega
              have HG := Lib.hid (fun z h => HGE.out z k hlt h)
              have HCK := Lib.hid (HCN.out k)
              have hcl := HCL.out k
              have HVR : Hid (∀ y, HvAt y g t'.b → y.rangeAt g (k * 33) (rfA (t'.b k)).toList ∧ y.cell? ⟨g, k * 33, none⟩ = some (.int .i64 (t'.b k).1)) := fun y hy => ⟨hy.rng HOKB.out.1 k hlt, hy.rng HOKB.out.1 k hlt 0 _ rfl⟩
              obtain ⟨R, Z', eA, e33, hkR, _⟩ := rfz (HOKB.out.1 k)
              have heqz := rf_eqs (HOKB.out.1 k) (HOKB.out.1 k)
              rw [decide_eq_true rfl] at heqz
              have HQS := Lib.hid hkR.size
              have HQ1 := Lib.hid hkR.one
              have hsQ := row_size Try.sizeRef33 HQS
              unfold RbSay at HG
              rw [e33] at HG
              rw [eA] at HVR heqz
              obtain ⟨at2, hat2⟩ : ∃ a, (t'.b k).1 = a := ⟨_, rfl⟩
              rw [hat2] at HG HVR HCK
              obtain ⟨cn, hcn⟩ : ∃ cn, Tr.cntb t' k = cn := ⟨_, rfl⟩
              rw [hcn] at HCK hcl ⊢
              have hw9 : IntKind.i64.wrap ((cn : Int) + 1) = ((cn + 1 : Nat) : Int) := by rw [IntWalk.i64_in _ ⟨by omega, by omega⟩]; omega
              clear HGE HCN HCL hkR eA e33 hat2 hcn HOKB HMP hlt
              by_cases hpos : at2 > 0
              · rw [decide_eq_true (show 0 < at2 from hpos)] at HG
                rw [if_pos (show 0 < at2 from hpos)] at HCK
                go_upto_region 20 with (first
                  | (go_at_call 17; refine (HG.out _ HP.out).mono ?_; rintro e6 w6 ⟨rfl, B6⟩)
                  | ((with_reducible refine row_store _ _ _ _ _ _ _ ?_ ?_ (heap_alloc_new _ _) hsQ ?_ HQ1.out ?_); (exact rfl); (exact rfl); (rw [HQS.out, HZS.out]); intro w7 G7 ch7; have B7 := Lib.hid (ch7.below (B6.out.alloc B6.out.size _) B6.out.size); have P7 := Lib.hid (HP.out.next B7.out); have V7 : Hid (HvAt w7 g t'.b) := (below_kept B7.out HV.out)))
                refine wp_region_any (by kernel_rfl) ?_
                change wpAny _ _ _ _ _ _ _ (World.drew _)
                have PZ : Hid (Pp w w7.drew b t') := ⟨⟨P7.out.at_.box, P7.out.at_.ok, P7.out.at_.tz, P7.out.at_.lo⟩, P7.out.inv, P7.out.old.drew⟩
                have VZ : Hid (HvAt w7.drew g t'.b) := V7.out
                have GZ : Hid (w7.drew.heap[w6.heap.size]? = some (.cells R 33 (0, 0))) := G7.out
                obtain ⟨z, hz9⟩ : ∃ y, y = w7.drew := ⟨_, rfl⟩
                rw [← hz9] at PZ VZ GZ ⊢
                clear hz9
                refine wpAny_of_held (S := fun y => y.heap[w6.heap.size]? = some (.cells R 33 (0, 0)) ∧ y.rangeAt g (k * 33) R.toList ∧ y.cell? ⟨g, k * 33, none⟩ = some (.int .i64 at2)) _ _ _ _ ?_
                have SD : (fun y => y.heap[w6.heap.size]? = some (.cells R 33 (0, 0)) ∧ y.rangeAt g (k * 33) R.toList ∧ y.cell? ⟨g, k * 33, none⟩ = some (.int .i64 at2)) z := ⟨GZ.out, (HVR.out _ VZ.out).1, (HVR.out _ VZ.out).2⟩
                refine anyH_take 0 76 (.agg R) SD rfl (by kernel_rfl) (by kernel_rfl) (by kernel_rfl) (fun _ _ _ h => h) (by rfl) (fun y hy => exec_arr _ _ w6.heap.size 0 _ _ rfl (rng_whole hy.1) Try.underlying33 rfl hsQ) ?_
                try simp only [Act.put, List.setIfInBounds_toArray, List.set_cons_zero, List.set_cons_succ]
                refine anyH_take 1 77 (.slice (some ⟨g, 0, none⟩) 64 64) SD rfl (by kernel_rfl) (by kernel_rfl) (by kernel_rfl) (fun _ _ _ h => h) (by rfl) (by intro y hy; obtain ⟨y0, y1, y2⟩ := hy; go_simp) ?_
                try simp only [Act.put, List.setIfInBounds_toArray, List.set_cons_zero, List.set_cons_succ]
                refine anyH_take 2 78 (.int .i64 (k : Int)) SD rfl (by kernel_rfl) (by kernel_rfl) (by kernel_rfl) (fun _ _ _ h => h) (by rfl) (by intro y hy; obtain ⟨y0, y1, y2⟩ := hy; go_simp) ?_
                try simp only [Act.put, List.setIfInBounds_toArray, List.set_cons_zero, List.set_cons_succ]
                refine anyH_take 3 79 (.pointer (some ⟨g, k * 33, none⟩)) SD rfl (by kernel_rfl) (by kernel_rfl) (by kernel_rfl) (fun _ _ _ h => h) (by rfl) (by intro y hy; obtain ⟨y0, y1, y2⟩ := hy; go_simp) ?_
                try simp only [Act.put, List.setIfInBounds_toArray, List.set_cons_zero, List.set_cons_succ]
                refine anyH_take 4 80 (.agg R) SD rfl (by kernel_rfl) (by kernel_rfl) (by kernel_rfl) (fun _ _ _ h => h) (by rfl) (fun y hy => exec_arr _ _ g (k * 33) _ _ rfl hy.2.1 Try.underlying33 rfl hsQ) ?_
                try simp only [Act.put, List.setIfInBounds_toArray, List.set_cons_zero, List.set_cons_succ]
                refine anyH_take 5 81 (.bool false) SD rfl (by kernel_rfl) (by kernel_rfl) (by kernel_rfl) (fun _ _ _ h => h) (by rfl) (by intro y hy; obtain ⟨y0, y1, y2⟩ := hy; go_simp) ?_
                try simp only [Act.put, List.setIfInBounds_toArray, List.set_cons_zero, List.set_cons_succ]
                refine anyH_take 6 82 (.bool false) SD rfl (by kernel_rfl) (by kernel_rfl) (by kernel_rfl) (fun _ _ _ h => h) (by rfl) (by intro y hy; obtain ⟨y0, y1, y2⟩ := hy; go_simp) ?_
                try simp only [Act.put, List.setIfInBounds_toArray, List.set_cons_zero, List.set_cons_succ]
                refine anyH_take 7 83 (.bool true) SD rfl (by kernel_rfl) (by kernel_rfl) (by kernel_rfl) (fun _ _ _ h => h) (by rfl) (by intro y hy; obtain ⟨y0, y1, y2⟩ := hy; go_simp) ?_
                try simp only [Act.put, List.setIfInBounds_toArray, List.set_cons_zero, List.set_cons_succ]
                refine anyH_take 8 84 (.slice (some ⟨g, 0, none⟩) 64 64) SD rfl (by kernel_rfl) (by kernel_rfl) (by kernel_rfl) (fun _ _ _ h => h) (by rfl) (by intro y hy; obtain ⟨y0, y1, y2⟩ := hy; go_simp) ?_
                try simp only [Act.put, List.setIfInBounds_toArray, List.set_cons_zero, List.set_cons_succ]
                refine anyH_take 9 85 (.int .i64 (k : Int)) SD rfl (by kernel_rfl) (by kernel_rfl) (by kernel_rfl) (fun _ _ _ h => h) (by rfl) (by intro y hy; obtain ⟨y0, y1, y2⟩ := hy; go_simp) ?_
                try simp only [Act.put, List.setIfInBounds_toArray, List.set_cons_zero, List.set_cons_succ]
                refine anyH_take 10 86 (.pointer (some ⟨g, k * 33, none⟩)) SD rfl (by kernel_rfl) (by kernel_rfl) (by kernel_rfl) (fun _ _ _ h => h) (by rfl) (by intro y hy; obtain ⟨y0, y1, y2⟩ := hy; go_simp) ?_
                try simp only [Act.put, List.setIfInBounds_toArray, List.set_cons_zero, List.set_cons_succ]
                refine anyH_take 11 87 (.pointer (some ⟨g, k * 33, none⟩)) SD rfl (by kernel_rfl) (by kernel_rfl) (by kernel_rfl) (fun _ _ _ h => h) (by rfl) (by intro y hy; obtain ⟨y0, y1, y2⟩ := hy; go_simp) ?_
                try simp only [Act.put, List.setIfInBounds_toArray, List.set_cons_zero, List.set_cons_succ]
                refine anyH_take 12 88 (.int .i64 at2) SD rfl (by kernel_rfl) (by kernel_rfl) (by kernel_rfl) (fun _ _ _ h => h) (by rfl) (by intro y hy; obtain ⟨y0, y1, y2⟩ := hy; go_simp) ?_
                try simp only [Act.put, List.setIfInBounds_toArray, List.set_cons_zero, List.set_cons_succ]
                refine anyH_take 13 89 (.bool true) SD rfl (by kernel_rfl) (by kernel_rfl) (by kernel_rfl) (fun _ _ _ h => h) (by rfl) (by intro y hy; obtain ⟨y0, y1, y2⟩ := hy; go_simp) ?_
                try simp only [Act.put, List.setIfInBounds_toArray, List.set_cons_zero, List.set_cons_succ]
                refine anyH_take 14 90 (.bool false) SD rfl (by kernel_rfl) (by kernel_rfl) (by kernel_rfl) (fun _ _ _ h => h) (by rfl) (by intro y hy; obtain ⟨y0, y1, y2⟩ := hy; go_simp) ?_
                try simp only [Act.put, List.setIfInBounds_toArray, List.set_cons_zero, List.set_cons_succ]
                refine anyH_take 15 91 (.bool false) SD rfl (by kernel_rfl) (by kernel_rfl) (by kernel_rfl) (fun _ _ _ h => h) (by rfl) (by intro y hy; obtain ⟨y0, y1, y2⟩ := hy; go_simp) ?_
                try simp only [Act.put, List.setIfInBounds_toArray, List.set_cons_zero, List.set_cons_succ]
                refine wpAnyH_done (by kernel_rfl) ?_ _
                go_wp2
                exact ⟨⟨k + 1, by omega, by go_num, (by rw [HCK.out]; go_num), PZ, VZ⟩, by simp [intOf]; omega⟩
              · rw [decide_eq_false (show ¬ 0 < at2 from hpos)] at HG
                rw [if_neg (show ¬ 0 < at2 from hpos)] at HCK
                go_upto_region 20 with (first
                  | (go_at_call 17; refine (HG.out _ HP.out).mono ?_; rintro e6 w6 ⟨rfl, B6⟩)
                  | ((with_reducible refine row_store _ _ _ _ _ _ _ ?_ ?_ (heap_alloc_new _ _) hsQ ?_ HQ1.out ?_); (exact rfl); (exact rfl); (rw [HQS.out, HZS.out]); intro w7 G7 ch7; have B7 := Lib.hid (ch7.below (B6.out.alloc B6.out.size _) B6.out.size); have P7 := Lib.hid (HP.out.next B7.out); have V7 : Hid (HvAt w7 g t'.b) := (below_kept B7.out HV.out)))
                refine wp_region_any (by kernel_rfl) ?_
                change wpAny _ _ _ _ _ _ _ (World.drew _)
                have PZ : Hid (Pp w w7.drew b t') := ⟨⟨P7.out.at_.box, P7.out.at_.ok, P7.out.at_.tz, P7.out.at_.lo⟩, P7.out.inv, P7.out.old.drew⟩
                have VZ : Hid (HvAt w7.drew g t'.b) := V7.out
                have GZ : Hid (w7.drew.heap[w6.heap.size]? = some (.cells R 33 (0, 0))) := G7.out
                obtain ⟨z, hz9⟩ : ∃ y, y = w7.drew := ⟨_, rfl⟩
                rw [← hz9] at PZ VZ GZ ⊢
                clear hz9
                refine wpAny_of_held (S := fun y => y.heap[w6.heap.size]? = some (.cells R 33 (0, 0)) ∧ y.rangeAt g (k * 33) R.toList ∧ y.cell? ⟨g, k * 33, none⟩ = some (.int .i64 at2)) _ _ _ _ ?_
                have SD : (fun y => y.heap[w6.heap.size]? = some (.cells R 33 (0, 0)) ∧ y.rangeAt g (k * 33) R.toList ∧ y.cell? ⟨g, k * 33, none⟩ = some (.int .i64 at2)) z := ⟨GZ.out, (HVR.out _ VZ.out).1, (HVR.out _ VZ.out).2⟩
                refine anyH_take 0 76 (.agg R) SD rfl (by kernel_rfl) (by kernel_rfl) (by kernel_rfl) (fun _ _ _ h => h) (by rfl) (fun y hy => exec_arr _ _ w6.heap.size 0 _ _ rfl (rng_whole hy.1) Try.underlying33 rfl hsQ) ?_
                try simp only [Act.put, List.setIfInBounds_toArray, List.set_cons_zero, List.set_cons_succ]
                refine anyH_take 1 77 (.slice (some ⟨g, 0, none⟩) 64 64) SD rfl (by kernel_rfl) (by kernel_rfl) (by kernel_rfl) (fun _ _ _ h => h) (by rfl) (by intro y hy; obtain ⟨y0, y1, y2⟩ := hy; go_simp) ?_
                try simp only [Act.put, List.setIfInBounds_toArray, List.set_cons_zero, List.set_cons_succ]
                refine anyH_take 2 78 (.int .i64 (k : Int)) SD rfl (by kernel_rfl) (by kernel_rfl) (by kernel_rfl) (fun _ _ _ h => h) (by rfl) (by intro y hy; obtain ⟨y0, y1, y2⟩ := hy; go_simp) ?_
                try simp only [Act.put, List.setIfInBounds_toArray, List.set_cons_zero, List.set_cons_succ]
                refine anyH_take 3 79 (.pointer (some ⟨g, k * 33, none⟩)) SD rfl (by kernel_rfl) (by kernel_rfl) (by kernel_rfl) (fun _ _ _ h => h) (by rfl) (by intro y hy; obtain ⟨y0, y1, y2⟩ := hy; go_simp) ?_
                try simp only [Act.put, List.setIfInBounds_toArray, List.set_cons_zero, List.set_cons_succ]
                refine anyH_take 4 80 (.agg R) SD rfl (by kernel_rfl) (by kernel_rfl) (by kernel_rfl) (fun _ _ _ h => h) (by rfl) (fun y hy => exec_arr _ _ g (k * 33) _ _ rfl hy.2.1 Try.underlying33 rfl hsQ) ?_
                try simp only [Act.put, List.setIfInBounds_toArray, List.set_cons_zero, List.set_cons_succ]
                refine anyH_take 5 81 (.bool false) SD rfl (by kernel_rfl) (by kernel_rfl) (by kernel_rfl) (fun _ _ _ h => h) (by rfl) (by intro y hy; obtain ⟨y0, y1, y2⟩ := hy; go_simp) ?_
                try simp only [Act.put, List.setIfInBounds_toArray, List.set_cons_zero, List.set_cons_succ]
                refine anyH_take 6 82 (.bool false) SD rfl (by kernel_rfl) (by kernel_rfl) (by kernel_rfl) (fun _ _ _ h => h) (by rfl) (by intro y hy; obtain ⟨y0, y1, y2⟩ := hy; go_simp) ?_
                try simp only [Act.put, List.setIfInBounds_toArray, List.set_cons_zero, List.set_cons_succ]
                refine anyH_take 7 83 (.bool false) SD rfl (by kernel_rfl) (by kernel_rfl) (by kernel_rfl) (fun _ _ _ h => h) (by rfl) (by intro y hy; obtain ⟨y0, y1, y2⟩ := hy; go_simp) ?_
                try simp only [Act.put, List.setIfInBounds_toArray, List.set_cons_zero, List.set_cons_succ]
                refine anyH_take 8 84 (.slice (some ⟨g, 0, none⟩) 64 64) SD rfl (by kernel_rfl) (by kernel_rfl) (by kernel_rfl) (fun _ _ _ h => h) (by rfl) (by intro y hy; obtain ⟨y0, y1, y2⟩ := hy; go_simp) ?_
                try simp only [Act.put, List.setIfInBounds_toArray, List.set_cons_zero, List.set_cons_succ]
                refine anyH_take 9 85 (.int .i64 (k : Int)) SD rfl (by kernel_rfl) (by kernel_rfl) (by kernel_rfl) (fun _ _ _ h => h) (by rfl) (by intro y hy; obtain ⟨y0, y1, y2⟩ := hy; go_simp) ?_
                try simp only [Act.put, List.setIfInBounds_toArray, List.set_cons_zero, List.set_cons_succ]
                refine anyH_take 10 86 (.pointer (some ⟨g, k * 33, none⟩)) SD rfl (by kernel_rfl) (by kernel_rfl) (by kernel_rfl) (fun _ _ _ h => h) (by rfl) (by intro y hy; obtain ⟨y0, y1, y2⟩ := hy; go_simp) ?_
                try simp only [Act.put, List.setIfInBounds_toArray, List.set_cons_zero, List.set_cons_succ]
                refine anyH_take 11 87 (.pointer (some ⟨g, k * 33, none⟩)) SD rfl (by kernel_rfl) (by kernel_rfl) (by kernel_rfl) (fun _ _ _ h => h) (by rfl) (by intro y hy; obtain ⟨y0, y1, y2⟩ := hy; go_simp) ?_
                try simp only [Act.put, List.setIfInBounds_toArray, List.set_cons_zero, List.set_cons_succ]
                refine anyH_take 12 88 (.int .i64 at2) SD rfl (by kernel_rfl) (by kernel_rfl) (by kernel_rfl) (fun _ _ _ h => h) (by rfl) (by intro y hy; obtain ⟨y0, y1, y2⟩ := hy; go_simp) ?_
                try simp only [Act.put, List.setIfInBounds_toArray, List.set_cons_zero, List.set_cons_succ]
                refine anyH_take 13 89 (.bool false) SD rfl (by kernel_rfl) (by kernel_rfl) (by kernel_rfl) (fun _ _ _ h => h) (by rfl) (by intro y hy; obtain ⟨y0, y1, y2⟩ := hy; go_simp) ?_
                try simp only [Act.put, List.setIfInBounds_toArray, List.set_cons_zero, List.set_cons_succ]
                refine anyH_take 14 90 (.bool false) SD rfl (by kernel_rfl) (by kernel_rfl) (by kernel_rfl) (fun _ _ _ h => h) (by rfl) (by intro y hy; obtain ⟨y0, y1, y2⟩ := hy; go_simp) ?_
                try simp only [Act.put, List.setIfInBounds_toArray, List.set_cons_zero, List.set_cons_succ]
                refine anyH_take 15 91 (.bool false) SD rfl (by kernel_rfl) (by kernel_rfl) (by kernel_rfl) (fun _ _ _ h => h) (by rfl) (by intro y hy; obtain ⟨y0, y1, y2⟩ := hy; go_simp) ?_
                try simp only [Act.put, List.setIfInBounds_toArray, List.set_cons_zero, List.set_cons_succ]
                refine wpAnyH_done (by kernel_rfl) ?_ _
                go_wp2
                exact ⟨⟨k + 1, by omega, by go_num, (by rw [HCK.out]; try rfl), PZ, VZ⟩, by simp [intOf]; omega⟩
            · have E : k = 64 := by omega
              subst E
              have HMM : Hid (Tr.mapped t' = Tr.cntb t' 64) := rfl
              rw [HMM.out] at HMP
              generalize Tr.cntb t' 64 = cn at *
              have hnn : ((cn : Int) != (cn : Int)) = false := by simp
              clear hlt HGE HCN HCL HOKB HIN HMM
              go_wp2_with (first
                | (go_at_call 18; refine (HMP.out _ HP.out).mono ?_; rintro e8 w8 ⟨rfl, B8⟩; have P8 := Lib.hid (HP.out.next B8.out); have V8 : Hid (HvAt w8 g t'.b) := (below_kept B8.out HV.out)))
              exact ⟨⟨i + 1, by omega, by go_num, by rw [HT'.out]; exact P8, by rw [HT'.out]; exact V8⟩, by simp [intOf]; omega⟩
        · go_upto_region 15 with (fail)
          clear G4 c0 c1 c2 c3
          go_wp2
          have HOKB := Lib.hid P5.out.at_.ok
          have HIN := Lib.hid P5.out.inv
          have HCN := Lib.hid (Tr.cnt_step t')
          have HCL := Lib.hid (Tr.cntb_le t')
          have HMP : Hid (∀ z, Pp w z b t' → Calls Try.prog 18 #[.pointer (some ⟨b, 0, none⟩)] z fun e w' => e = .returned (.int .i64 (Tr.mapped t' : Int)) ∧ Hid (Below z.heap.size z w')) := fun z h => pmapped_any z h.at_
          have HGE : Hid (∀ z (k : Nat), k < 64 → Pp w z b t' → Calls Try.prog 17 #[.pointer (some ⟨b, 0, none⟩), .int .i64 (k : Int)] z (RbSay (t'.b k) (decide (0 < (t'.b k).1)) z)) := fun z k hk h => by
            have q := pget_any (k : Int) z h.at_
            obtain ⟨e1, e2⟩ := Tr.get_in h.at_.tz k hk
            rw [e1, e2] at q
            exact q
          clear HRS HR1 hsR HC2
          go_loopw [7, 8] (fun v7 v8 wq => ∃ k : Nat, k ≤ 64 ∧ v8 = .int .i64 k ∧ v7 = .int .i64 ((Tr.cntb t' k : Nat) : Int) ∧ Hid (Pp w wq b t') ∧ Hid (HvAt wq g t'.b)) (fun _ v8 _ => 64 - (intOf v8).toNat)
          case atStart => exact ⟨0, by omega, rfl, rfl, P5, V5⟩
          case round =>
            clear P5 V5
            obtain ⟨k, hk, rfl, rfl, HP, HV⟩ := hrel
            by_cases hlt : k < 64
            · have hk0 : 0 ≤ (k : Int) := by omega
              have hk1 : (k : Int) < 64 := by omega
              have HG := Lib.hid (fun z h => HGE.out z k hlt h)
              have HCK := Lib.hid (HCN.out k)
              have hcl := HCL.out k
              have HVR : Hid (∀ y, HvAt y g t'.b → y.rangeAt g (k * 33) (rfA (t'.b k)).toList ∧ y.cell? ⟨g, k * 33, none⟩ = some (.int .i64 (t'.b k).1)) := fun y hy => ⟨hy.rng HOKB.out.1 k hlt, hy.rng HOKB.out.1 k hlt 0 _ rfl⟩
              obtain ⟨R, Z', eA, e33, hkR, _⟩ := rfz (HOKB.out.1 k)
              have heqz := rf_eqs (HOKB.out.1 k) (HOKB.out.1 k)
              rw [decide_eq_true rfl] at heqz
              have HQS := Lib.hid hkR.size
              have HQ1 := Lib.hid hkR.one
              have hsQ := row_size Try.sizeRef33 HQS
              unfold RbSay at HG
              rw [e33] at HG
              rw [eA] at HVR heqz
              obtain ⟨at2, hat2⟩ : ∃ a, (t'.b k).1 = a := ⟨_, rfl⟩
              rw [hat2] at HG HVR HCK
              obtain ⟨cn, hcn⟩ : ∃ cn, Tr.cntb t' k = cn := ⟨_, rfl⟩
              rw [hcn] at HCK hcl ⊢
              have hw9 : IntKind.i64.wrap ((cn : Int) + 1) = ((cn + 1 : Nat) : Int) := by rw [IntWalk.i64_in _ ⟨by omega, by omega⟩]; omega
              clear HGE HCN HCL hkR eA e33 hat2 hcn HOKB HMP hlt
              by_cases hpos : at2 > 0
              · rw [decide_eq_true (show 0 < at2 from hpos)] at HG
                rw [if_pos (show 0 < at2 from hpos)] at HCK
                go_upto_region 20 with (first
                  | (go_at_call 17; refine (HG.out _ HP.out).mono ?_; rintro e6 w6 ⟨rfl, B6⟩)
                  | ((with_reducible refine row_store _ _ _ _ _ _ _ ?_ ?_ (heap_alloc_new _ _) hsQ ?_ HQ1.out ?_); (exact rfl); (exact rfl); (rw [HQS.out, HZS.out]); intro w7 G7 ch7; have B7 := Lib.hid (ch7.below (B6.out.alloc B6.out.size _) B6.out.size); have P7 := Lib.hid (HP.out.next B7.out); have V7 : Hid (HvAt w7 g t'.b) := (below_kept B7.out HV.out)))
                refine wp_region_any (by kernel_rfl) ?_
                change wpAny _ _ _ _ _ _ _ (World.drew _)
                have PZ : Hid (Pp w w7.drew b t') := ⟨⟨P7.out.at_.box, P7.out.at_.ok, P7.out.at_.tz, P7.out.at_.lo⟩, P7.out.inv, P7.out.old.drew⟩
                have VZ : Hid (HvAt w7.drew g t'.b) := V7.out
                have GZ : Hid (w7.drew.heap[w6.heap.size]? = some (.cells R 33 (0, 0))) := G7.out
                obtain ⟨z, hz9⟩ : ∃ y, y = w7.drew := ⟨_, rfl⟩
                rw [← hz9] at PZ VZ GZ ⊢
                clear hz9
                refine wpAny_of_held (S := fun y => y.heap[w6.heap.size]? = some (.cells R 33 (0, 0)) ∧ y.rangeAt g (k * 33) R.toList ∧ y.cell? ⟨g, k * 33, none⟩ = some (.int .i64 at2)) _ _ _ _ ?_
                have SD : (fun y => y.heap[w6.heap.size]? = some (.cells R 33 (0, 0)) ∧ y.rangeAt g (k * 33) R.toList ∧ y.cell? ⟨g, k * 33, none⟩ = some (.int .i64 at2)) z := ⟨GZ.out, (HVR.out _ VZ.out).1, (HVR.out _ VZ.out).2⟩
                refine anyH_take 0 76 (.agg R) SD rfl (by kernel_rfl) (by kernel_rfl) (by kernel_rfl) (fun _ _ _ h => h) (by rfl) (fun y hy => exec_arr _ _ w6.heap.size 0 _ _ rfl (rng_whole hy.1) Try.underlying33 rfl hsQ) ?_
                try simp only [Act.put, List.setIfInBounds_toArray, List.set_cons_zero, List.set_cons_succ]
                refine anyH_take 1 77 (.slice (some ⟨g, 0, none⟩) 64 64) SD rfl (by kernel_rfl) (by kernel_rfl) (by kernel_rfl) (fun _ _ _ h => h) (by rfl) (by intro y hy; obtain ⟨y0, y1, y2⟩ := hy; go_simp) ?_
                try simp only [Act.put, List.setIfInBounds_toArray, List.set_cons_zero, List.set_cons_succ]
                refine anyH_take 2 78 (.int .i64 (k : Int)) SD rfl (by kernel_rfl) (by kernel_rfl) (by kernel_rfl) (fun _ _ _ h => h) (by rfl) (by intro y hy; obtain ⟨y0, y1, y2⟩ := hy; go_simp) ?_
                try simp only [Act.put, List.setIfInBounds_toArray, List.set_cons_zero, List.set_cons_succ]
                refine anyH_take 3 79 (.pointer (some ⟨g, k * 33, none⟩)) SD rfl (by kernel_rfl) (by kernel_rfl) (by kernel_rfl) (fun _ _ _ h => h) (by rfl) (by intro y hy; obtain ⟨y0, y1, y2⟩ := hy; go_simp) ?_
                try simp only [Act.put, List.setIfInBounds_toArray, List.set_cons_zero, List.set_cons_succ]
                refine anyH_take 4 80 (.agg R) SD rfl (by kernel_rfl) (by kernel_rfl) (by kernel_rfl) (fun _ _ _ h => h) (by rfl) (fun y hy => exec_arr _ _ g (k * 33) _ _ rfl hy.2.1 Try.underlying33 rfl hsQ) ?_
                try simp only [Act.put, List.setIfInBounds_toArray, List.set_cons_zero, List.set_cons_succ]
                refine anyH_take 5 81 (.bool false) SD rfl (by kernel_rfl) (by kernel_rfl) (by kernel_rfl) (fun _ _ _ h => h) (by rfl) (by intro y hy; obtain ⟨y0, y1, y2⟩ := hy; go_simp) ?_
                try simp only [Act.put, List.setIfInBounds_toArray, List.set_cons_zero, List.set_cons_succ]
                refine anyH_take 6 82 (.bool false) SD rfl (by kernel_rfl) (by kernel_rfl) (by kernel_rfl) (fun _ _ _ h => h) (by rfl) (by intro y hy; obtain ⟨y0, y1, y2⟩ := hy; go_simp) ?_
                try simp only [Act.put, List.setIfInBounds_toArray, List.set_cons_zero, List.set_cons_succ]
                refine anyH_take 7 83 (.bool true) SD rfl (by kernel_rfl) (by kernel_rfl) (by kernel_rfl) (fun _ _ _ h => h) (by rfl) (by intro y hy; obtain ⟨y0, y1, y2⟩ := hy; go_simp) ?_
                try simp only [Act.put, List.setIfInBounds_toArray, List.set_cons_zero, List.set_cons_succ]
                refine anyH_take 8 84 (.slice (some ⟨g, 0, none⟩) 64 64) SD rfl (by kernel_rfl) (by kernel_rfl) (by kernel_rfl) (fun _ _ _ h => h) (by rfl) (by intro y hy; obtain ⟨y0, y1, y2⟩ := hy; go_simp) ?_
                try simp only [Act.put, List.setIfInBounds_toArray, List.set_cons_zero, List.set_cons_succ]
                refine anyH_take 9 85 (.int .i64 (k : Int)) SD rfl (by kernel_rfl) (by kernel_rfl) (by kernel_rfl) (fun _ _ _ h => h) (by rfl) (by intro y hy; obtain ⟨y0, y1, y2⟩ := hy; go_simp) ?_
                try simp only [Act.put, List.setIfInBounds_toArray, List.set_cons_zero, List.set_cons_succ]
                refine anyH_take 10 86 (.pointer (some ⟨g, k * 33, none⟩)) SD rfl (by kernel_rfl) (by kernel_rfl) (by kernel_rfl) (fun _ _ _ h => h) (by rfl) (by intro y hy; obtain ⟨y0, y1, y2⟩ := hy; go_simp) ?_
                try simp only [Act.put, List.setIfInBounds_toArray, List.set_cons_zero, List.set_cons_succ]
                refine anyH_take 11 87 (.pointer (some ⟨g, k * 33, none⟩)) SD rfl (by kernel_rfl) (by kernel_rfl) (by kernel_rfl) (fun _ _ _ h => h) (by rfl) (by intro y hy; obtain ⟨y0, y1, y2⟩ := hy; go_simp) ?_
                try simp only [Act.put, List.setIfInBounds_toArray, List.set_cons_zero, List.set_cons_succ]
                refine anyH_take 12 88 (.int .i64 at2) SD rfl (by kernel_rfl) (by kernel_rfl) (by kernel_rfl) (fun _ _ _ h => h) (by rfl) (by intro y hy; obtain ⟨y0, y1, y2⟩ := hy; go_simp) ?_
                try simp only [Act.put, List.setIfInBounds_toArray, List.set_cons_zero, List.set_cons_succ]
                refine anyH_take 13 89 (.bool true) SD rfl (by kernel_rfl) (by kernel_rfl) (by kernel_rfl) (fun _ _ _ h => h) (by rfl) (by intro y hy; obtain ⟨y0, y1, y2⟩ := hy; go_simp) ?_
                try simp only [Act.put, List.setIfInBounds_toArray, List.set_cons_zero, List.set_cons_succ]
                refine anyH_take 14 90 (.bool false) SD rfl (by kernel_rfl) (by kernel_rfl) (by kernel_rfl) (fun _ _ _ h => h) (by rfl) (by intro y hy; obtain ⟨y0, y1, y2⟩ := hy; go_simp) ?_
                try simp only [Act.put, List.setIfInBounds_toArray, List.set_cons_zero, List.set_cons_succ]
                refine anyH_take 15 91 (.bool false) SD rfl (by kernel_rfl) (by kernel_rfl) (by kernel_rfl) (fun _ _ _ h => h) (by rfl) (by intro y hy; obtain ⟨y0, y1, y2⟩ := hy; go_simp) ?_
                try simp only [Act.put, List.setIfInBounds_toArray, List.set_cons_zero, List.set_cons_succ]
                refine wpAnyH_done (by kernel_rfl) ?_ _
                go_wp2
                exact ⟨⟨k + 1, by omega, by go_num, (by rw [HCK.out]; go_num), PZ, VZ⟩, by simp [intOf]; omega⟩
              · rw [decide_eq_false (show ¬ 0 < at2 from hpos)] at HG
                rw [if_neg (show ¬ 0 < at2 from hpos)] at HCK
                go_upto_region 20 with (first
                  | (go_at_call 17; refine (HG.out _ HP.out).mono ?_; rintro e6 w6 ⟨rfl, B6⟩)
                  | ((with_reducible refine row_store _ _ _ _ _ _ _ ?_ ?_ (heap_alloc_new _ _) hsQ ?_ HQ1.out ?_); (exact rfl); (exact rfl); (rw [HQS.out, HZS.out]); intro w7 G7 ch7; have B7 := Lib.hid (ch7.below (B6.out.alloc B6.out.size _) B6.out.size); have P7 := Lib.hid (HP.out.next B7.out); have V7 : Hid (HvAt w7 g t'.b) := (below_kept B7.out HV.out)))
                refine wp_region_any (by kernel_rfl) ?_
                change wpAny _ _ _ _ _ _ _ (World.drew _)
                have PZ : Hid (Pp w w7.drew b t') := ⟨⟨P7.out.at_.box, P7.out.at_.ok, P7.out.at_.tz, P7.out.at_.lo⟩, P7.out.inv, P7.out.old.drew⟩
                have VZ : Hid (HvAt w7.drew g t'.b) := V7.out
                have GZ : Hid (w7.drew.heap[w6.heap.size]? = some (.cells R 33 (0, 0))) := G7.out
                obtain ⟨z, hz9⟩ : ∃ y, y = w7.drew := ⟨_, rfl⟩
                rw [← hz9] at PZ VZ GZ ⊢
                clear hz9
                refine wpAny_of_held (S := fun y => y.heap[w6.heap.size]? = some (.cells R 33 (0, 0)) ∧ y.rangeAt g (k * 33) R.toList ∧ y.cell? ⟨g, k * 33, none⟩ = some (.int .i64 at2)) _ _ _ _ ?_
                have SD : (fun y => y.heap[w6.heap.size]? = some (.cells R 33 (0, 0)) ∧ y.rangeAt g (k * 33) R.toList ∧ y.cell? ⟨g, k * 33, none⟩ = some (.int .i64 at2)) z := ⟨GZ.out, (HVR.out _ VZ.out).1, (HVR.out _ VZ.out).2⟩
                refine anyH_take 0 76 (.agg R) SD rfl (by kernel_rfl) (by kernel_rfl) (by kernel_rfl) (fun _ _ _ h => h) (by rfl) (fun y hy => exec_arr _ _ w6.heap.size 0 _ _ rfl (rng_whole hy.1) Try.underlying33 rfl hsQ) ?_
                try simp only [Act.put, List.setIfInBounds_toArray, List.set_cons_zero, List.set_cons_succ]
                refine anyH_take 1 77 (.slice (some ⟨g, 0, none⟩) 64 64) SD rfl (by kernel_rfl) (by kernel_rfl) (by kernel_rfl) (fun _ _ _ h => h) (by rfl) (by intro y hy; obtain ⟨y0, y1, y2⟩ := hy; go_simp) ?_
                try simp only [Act.put, List.setIfInBounds_toArray, List.set_cons_zero, List.set_cons_succ]
                refine anyH_take 2 78 (.int .i64 (k : Int)) SD rfl (by kernel_rfl) (by kernel_rfl) (by kernel_rfl) (fun _ _ _ h => h) (by rfl) (by intro y hy; obtain ⟨y0, y1, y2⟩ := hy; go_simp) ?_
                try simp only [Act.put, List.setIfInBounds_toArray, List.set_cons_zero, List.set_cons_succ]
                refine anyH_take 3 79 (.pointer (some ⟨g, k * 33, none⟩)) SD rfl (by kernel_rfl) (by kernel_rfl) (by kernel_rfl) (fun _ _ _ h => h) (by rfl) (by intro y hy; obtain ⟨y0, y1, y2⟩ := hy; go_simp) ?_
                try simp only [Act.put, List.setIfInBounds_toArray, List.set_cons_zero, List.set_cons_succ]
                refine anyH_take 4 80 (.agg R) SD rfl (by kernel_rfl) (by kernel_rfl) (by kernel_rfl) (fun _ _ _ h => h) (by rfl) (fun y hy => exec_arr _ _ g (k * 33) _ _ rfl hy.2.1 Try.underlying33 rfl hsQ) ?_
                try simp only [Act.put, List.setIfInBounds_toArray, List.set_cons_zero, List.set_cons_succ]
                refine anyH_take 5 81 (.bool false) SD rfl (by kernel_rfl) (by kernel_rfl) (by kernel_rfl) (fun _ _ _ h => h) (by rfl) (by intro y hy; obtain ⟨y0, y1, y2⟩ := hy; go_simp) ?_
                try simp only [Act.put, List.setIfInBounds_toArray, List.set_cons_zero, List.set_cons_succ]
                refine anyH_take 6 82 (.bool false) SD rfl (by kernel_rfl) (by kernel_rfl) (by kernel_rfl) (fun _ _ _ h => h) (by rfl) (by intro y hy; obtain ⟨y0, y1, y2⟩ := hy; go_simp) ?_
                try simp only [Act.put, List.setIfInBounds_toArray, List.set_cons_zero, List.set_cons_succ]
                refine anyH_take 7 83 (.bool false) SD rfl (by kernel_rfl) (by kernel_rfl) (by kernel_rfl) (fun _ _ _ h => h) (by rfl) (by intro y hy; obtain ⟨y0, y1, y2⟩ := hy; go_simp) ?_
                try simp only [Act.put, List.setIfInBounds_toArray, List.set_cons_zero, List.set_cons_succ]
                refine anyH_take 8 84 (.slice (some ⟨g, 0, none⟩) 64 64) SD rfl (by kernel_rfl) (by kernel_rfl) (by kernel_rfl) (fun _ _ _ h => h) (by rfl) (by intro y hy; obtain ⟨y0, y1, y2⟩ := hy; go_simp) ?_
                try simp only [Act.put, List.setIfInBounds_toArray, List.set_cons_zero, List.set_cons_succ]
                refine anyH_take 9 85 (.int .i64 (k : Int)) SD rfl (by kernel_rfl) (by kernel_rfl) (by kernel_rfl) (fun _ _ _ h => h) (by rfl) (by intro y hy; obtain ⟨y0, y1, y2⟩ := hy; go_simp) ?_
                try simp only [Act.put, List.setIfInBounds_toArray, List.set_cons_zero, List.set_cons_succ]
                refine anyH_take 10 86 (.pointer (some ⟨g, k * 33, none⟩)) SD rfl (by kernel_rfl) (by kernel_rfl) (by kernel_rfl) (fun _ _ _ h => h) (by rfl) (by intro y hy; obtain ⟨y0, y1, y2⟩ := hy; go_simp) ?_
                try simp only [Act.put, List.setIfInBounds_toArray, List.set_cons_zero, List.set_cons_succ]
                refine anyH_take 11 87 (.pointer (some ⟨g, k * 33, none⟩)) SD rfl (by kernel_rfl) (by kernel_rfl) (by kernel_rfl) (fun _ _ _ h => h) (by rfl) (by intro y hy; obtain ⟨y0, y1, y2⟩ := hy; go_simp) ?_
                try simp only [Act.put, List.setIfInBounds_toArray, List.set_cons_zero, List.set_cons_succ]
                refine anyH_take 12 88 (.int .i64 at2) SD rfl (by kernel_rfl) (by kernel_rfl) (by kernel_rfl) (fun _ _ _ h => h) (by rfl) (by intro y hy; obtain ⟨y0, y1, y2⟩ := hy; go_simp) ?_
                try simp only [Act.put, List.setIfInBounds_toArray, List.set_cons_zero, List.set_cons_succ]
                refine anyH_take 13 89 (.bool false) SD rfl (by kernel_rfl) (by kernel_rfl) (by kernel_rfl) (fun _ _ _ h => h) (by rfl) (by intro y hy; obtain ⟨y0, y1, y2⟩ := hy; go_simp) ?_
                try simp only [Act.put, List.setIfInBounds_toArray, List.set_cons_zero, List.set_cons_succ]
                refine anyH_take 14 90 (.bool false) SD rfl (by kernel_rfl) (by kernel_rfl) (by kernel_rfl) (fun _ _ _ h => h) (by rfl) (by intro y hy; obtain ⟨y0, y1, y2⟩ := hy; go_simp) ?_
                try simp only [Act.put, List.setIfInBounds_toArray, List.set_cons_zero, List.set_cons_succ]
                refine anyH_take 15 91 (.bool false) SD rfl (by kernel_rfl) (by kernel_rfl) (by kernel_rfl) (fun _ _ _ h => h) (by rfl) (by intro y hy; obtain ⟨y0, y1, y2⟩ := hy; go_simp) ?_
                try simp only [Act.put, List.setIfInBounds_toArray, List.set_cons_zero, List.set_cons_succ]
                refine wpAnyH_done (by kernel_rfl) ?_ _
                go_wp2
                exact ⟨⟨k + 1, by omega, by go_num, (by rw [HCK.out]; try rfl), PZ, VZ⟩, by simp [intOf]; omega⟩
            · have E : k = 64 := by omega
              subst E
              have HMM : Hid (Tr.mapped t' = Tr.cntb t' 64) := rfl
              rw [HMM.out] at HMP
              generalize Tr.cntb t' 64 = cn at *
              have hnn : ((cn : Int) != (cn : Int)) = false := by simp
              clear hlt HGE HCN HCL HOKB HIN HMM
              go_wp2_with (first
                | (go_at_call 18; refine (HMP.out _ HP.out).mono ?_; rintro e8 w8 ⟨rfl, B8⟩; have P8 := Lib.hid (HP.out.next B8.out); have V8 : Hid (HvAt w8 g t'.b) := (below_kept B8.out HV.out)))
              exact ⟨⟨i + 1, by omega, by go_num, by rw [HT'.out]; exact P8, by rw [HT'.out]; exact V8⟩, by simp [intOf]; omega⟩
        · go_upto_region 15 with (fail)
          clear G4 c0 c1 c2 c3
          go_wp2
          have HOKB := Lib.hid P5.out.at_.ok
          have HIN := Lib.hid P5.out.inv
          have HCN := Lib.hid (Tr.cnt_step t')
          have HCL := Lib.hid (Tr.cntb_le t')
          have HMP : Hid (∀ z, Pp w z b t' → Calls Try.prog 18 #[.pointer (some ⟨b, 0, none⟩)] z fun e w' => e = .returned (.int .i64 (Tr.mapped t' : Int)) ∧ Hid (Below z.heap.size z w')) := fun z h => pmapped_any z h.at_
          have HGE : Hid (∀ z (k : Nat), k < 64 → Pp w z b t' → Calls Try.prog 17 #[.pointer (some ⟨b, 0, none⟩), .int .i64 (k : Int)] z (RbSay (t'.b k) (decide (0 < (t'.b k).1)) z)) := fun z k hk h => by
            have q := pget_any (k : Int) z h.at_
            obtain ⟨e1, e2⟩ := Tr.get_in h.at_.tz k hk
            rw [e1, e2] at q
            exact q
          clear HRS HR1 hsR HC2
          go_loopw [7, 8] (fun v7 v8 wq => ∃ k : Nat, k ≤ 64 ∧ v8 = .int .i64 k ∧ v7 = .int .i64 ((Tr.cntb t' k : Nat) : Int) ∧ Hid (Pp w wq b t') ∧ Hid (HvAt wq g t'.b)) (fun _ v8 _ => 64 - (intOf v8).toNat)
          case atStart => exact ⟨0, by omega, rfl, rfl, P5, V5⟩
          case round =>
            clear P5 V5
            obtain ⟨k, hk, rfl, rfl, HP, HV⟩ := hrel
            by_cases hlt : k < 64
            · have hk0 : 0 ≤ (k : Int) := by omega
              have hk1 : (k : Int) < 64 := by omega
              have HG := Lib.hid (fun z h => HGE.out z k hlt h)
              have HCK := Lib.hid (HCN.out k)
              have hcl := HCL.out k
              have HVR : Hid (∀ y, HvAt y g t'.b → y.rangeAt g (k * 33) (rfA (t'.b k)).toList ∧ y.cell? ⟨g, k * 33, none⟩ = some (.int .i64 (t'.b k).1)) := fun y hy => ⟨hy.rng HOKB.out.1 k hlt, hy.rng HOKB.out.1 k hlt 0 _ rfl⟩
              obtain ⟨R, Z', eA, e33, hkR, _⟩ := rfz (HOKB.out.1 k)
              have heqz := rf_eqs (HOKB.out.1 k) (HOKB.out.1 k)
              rw [decide_eq_true rfl] at heqz
              have HQS := Lib.hid hkR.size
              have HQ1 := Lib.hid hkR.one
              have hsQ := row_size Try.sizeRef33 HQS
              unfold RbSay at HG
              rw [e33] at HG
              rw [eA] at HVR heqz
              obtain ⟨at2, hat2⟩ : ∃ a, (t'.b k).1 = a := ⟨_, rfl⟩
              rw [hat2] at HG HVR HCK
              obtain ⟨cn, hcn⟩ : ∃ cn, Tr.cntb t' k = cn := ⟨_, rfl⟩
              rw [hcn] at HCK hcl ⊢
              have hw9 : IntKind.i64.wrap ((cn : Int) + 1) = ((cn + 1 : Nat) : Int) := by rw [IntWalk.i64_in _ ⟨by omega, by omega⟩]; omega
              clear HGE HCN HCL hkR eA e33 hat2 hcn HOKB HMP hlt
              by_cases hpos : at2 > 0
              · rw [decide_eq_true (show 0 < at2 from hpos)] at HG
                rw [if_pos (show 0 < at2 from hpos)] at HCK
                go_upto_region 20 with (first
                  | (go_at_call 17; refine (HG.out _ HP.out).mono ?_; rintro e6 w6 ⟨rfl, B6⟩)
                  | ((with_reducible refine row_store _ _ _ _ _ _ _ ?_ ?_ (heap_alloc_new _ _) hsQ ?_ HQ1.out ?_); (exact rfl); (exact rfl); (rw [HQS.out, HZS.out]); intro w7 G7 ch7; have B7 := Lib.hid (ch7.below (B6.out.alloc B6.out.size _) B6.out.size); have P7 := Lib.hid (HP.out.next B7.out); have V7 : Hid (HvAt w7 g t'.b) := (below_kept B7.out HV.out)))
                refine wp_region_any (by kernel_rfl) ?_
                change wpAny _ _ _ _ _ _ _ (World.drew _)
                have PZ : Hid (Pp w w7.drew b t') := ⟨⟨P7.out.at_.box, P7.out.at_.ok, P7.out.at_.tz, P7.out.at_.lo⟩, P7.out.inv, P7.out.old.drew⟩
                have VZ : Hid (HvAt w7.drew g t'.b) := V7.out
                have GZ : Hid (w7.drew.heap[w6.heap.size]? = some (.cells R 33 (0, 0))) := G7.out
                obtain ⟨z, hz9⟩ : ∃ y, y = w7.drew := ⟨_, rfl⟩
                rw [← hz9] at PZ VZ GZ ⊢
                clear hz9
                refine wpAny_of_held (S := fun y => y.heap[w6.heap.size]? = some (.cells R 33 (0, 0)) ∧ y.rangeAt g (k * 33) R.toList ∧ y.cell? ⟨g, k * 33, none⟩ = some (.int .i64 at2)) _ _ _ _ ?_
                have SD : (fun y => y.heap[w6.heap.size]? = some (.cells R 33 (0, 0)) ∧ y.rangeAt g (k * 33) R.toList ∧ y.cell? ⟨g, k * 33, none⟩ = some (.int .i64 at2)) z := ⟨GZ.out, (HVR.out _ VZ.out).1, (HVR.out _ VZ.out).2⟩
                refine anyH_take 0 76 (.agg R) SD rfl (by kernel_rfl) (by kernel_rfl) (by kernel_rfl) (fun _ _ _ h => h) (by rfl) (fun y hy => exec_arr _ _ w6.heap.size 0 _ _ rfl (rng_whole hy.1) Try.underlying33 rfl hsQ) ?_
                try simp only [Act.put, List.setIfInBounds_toArray, List.set_cons_zero, List.set_cons_succ]
                refine anyH_take 1 77 (.slice (some ⟨g, 0, none⟩) 64 64) SD rfl (by kernel_rfl) (by kernel_rfl) (by kernel_rfl) (fun _ _ _ h => h) (by rfl) (by intro y hy; obtain ⟨y0, y1, y2⟩ := hy; go_simp) ?_
                try simp only [Act.put, List.setIfInBounds_toArray, List.set_cons_zero, List.set_cons_succ]
                refine anyH_take 2 78 (.int .i64 (k : Int)) SD rfl (by kernel_rfl) (by kernel_rfl) (by kernel_rfl) (fun _ _ _ h => h) (by rfl) (by intro y hy; obtain ⟨y0, y1, y2⟩ := hy; go_simp) ?_
                try simp only [Act.put, List.setIfInBounds_toArray, List.set_cons_zero, List.set_cons_succ]
                refine anyH_take 3 79 (.pointer (some ⟨g, k * 33, none⟩)) SD rfl (by kernel_rfl) (by kernel_rfl) (by kernel_rfl) (fun _ _ _ h => h) (by rfl) (by intro y hy; obtain ⟨y0, y1, y2⟩ := hy; go_simp) ?_
                try simp only [Act.put, List.setIfInBounds_toArray, List.set_cons_zero, List.set_cons_succ]
                refine anyH_take 4 80 (.agg R) SD rfl (by kernel_rfl) (by kernel_rfl) (by kernel_rfl) (fun _ _ _ h => h) (by rfl) (fun y hy => exec_arr _ _ g (k * 33) _ _ rfl hy.2.1 Try.underlying33 rfl hsQ) ?_
                try simp only [Act.put, List.setIfInBounds_toArray, List.set_cons_zero, List.set_cons_succ]
                refine anyH_take 5 81 (.bool false) SD rfl (by kernel_rfl) (by kernel_rfl) (by kernel_rfl) (fun _ _ _ h => h) (by rfl) (by intro y hy; obtain ⟨y0, y1, y2⟩ := hy; go_simp) ?_
                try simp only [Act.put, List.setIfInBounds_toArray, List.set_cons_zero, List.set_cons_succ]
                refine anyH_take 6 82 (.bool false) SD rfl (by kernel_rfl) (by kernel_rfl) (by kernel_rfl) (fun _ _ _ h => h) (by rfl) (by intro y hy; obtain ⟨y0, y1, y2⟩ := hy; go_simp) ?_
                try simp only [Act.put, List.setIfInBounds_toArray, List.set_cons_zero, List.set_cons_succ]
                refine anyH_take 7 83 (.bool true) SD rfl (by kernel_rfl) (by kernel_rfl) (by kernel_rfl) (fun _ _ _ h => h) (by rfl) (by intro y hy; obtain ⟨y0, y1, y2⟩ := hy; go_simp) ?_
                try simp only [Act.put, List.setIfInBounds_toArray, List.set_cons_zero, List.set_cons_succ]
                refine anyH_take 8 84 (.slice (some ⟨g, 0, none⟩) 64 64) SD rfl (by kernel_rfl) (by kernel_rfl) (by kernel_rfl) (fun _ _ _ h => h) (by rfl) (by intro y hy; obtain ⟨y0, y1, y2⟩ := hy; go_simp) ?_
                try simp only [Act.put, List.setIfInBounds_toArray, List.set_cons_zero, List.set_cons_succ]
                refine anyH_take 9 85 (.int .i64 (k : Int)) SD rfl (by kernel_rfl) (by kernel_rfl) (by kernel_rfl) (fun _ _ _ h => h) (by rfl) (by intro y hy; obtain ⟨y0, y1, y2⟩ := hy; go_simp) ?_
                try simp only [Act.put, List.setIfInBounds_toArray, List.set_cons_zero, List.set_cons_succ]
                refine anyH_take 10 86 (.pointer (some ⟨g, k * 33, none⟩)) SD rfl (by kernel_rfl) (by kernel_rfl) (by kernel_rfl) (fun _ _ _ h => h) (by rfl) (by intro y hy; obtain ⟨y0, y1, y2⟩ := hy; go_simp) ?_
                try simp only [Act.put, List.setIfInBounds_toArray, List.set_cons_zero, List.set_cons_succ]
                refine anyH_take 11 87 (.pointer (some ⟨g, k * 33, none⟩)) SD rfl (by kernel_rfl) (by kernel_rfl) (by kernel_rfl) (fun _ _ _ h => h) (by rfl) (by intro y hy; obtain ⟨y0, y1, y2⟩ := hy; go_simp) ?_
                try simp only [Act.put, List.setIfInBounds_toArray, List.set_cons_zero, List.set_cons_succ]
                refine anyH_take 12 88 (.int .i64 at2) SD rfl (by kernel_rfl) (by kernel_rfl) (by kernel_rfl) (fun _ _ _ h => h) (by rfl) (by intro y hy; obtain ⟨y0, y1, y2⟩ := hy; go_simp) ?_
                try simp only [Act.put, List.setIfInBounds_toArray, List.set_cons_zero, List.set_cons_succ]
                refine anyH_take 13 89 (.bool true) SD rfl (by kernel_rfl) (by kernel_rfl) (by kernel_rfl) (fun _ _ _ h => h) (by rfl) (by intro y hy; obtain ⟨y0, y1, y2⟩ := hy; go_simp) ?_
                try simp only [Act.put, List.setIfInBounds_toArray, List.set_cons_zero, List.set_cons_succ]
                refine anyH_take 14 90 (.bool false) SD rfl (by kernel_rfl) (by kernel_rfl) (by kernel_rfl) (fun _ _ _ h => h) (by rfl) (by intro y hy; obtain ⟨y0, y1, y2⟩ := hy; go_simp) ?_
                try simp only [Act.put, List.setIfInBounds_toArray, List.set_cons_zero, List.set_cons_succ]
                refine anyH_take 15 91 (.bool false) SD rfl (by kernel_rfl) (by kernel_rfl) (by kernel_rfl) (fun _ _ _ h => h) (by rfl) (by intro y hy; obtain ⟨y0, y1, y2⟩ := hy; go_simp) ?_
                try simp only [Act.put, List.setIfInBounds_toArray, List.set_cons_zero, List.set_cons_succ]
                refine wpAnyH_done (by kernel_rfl) ?_ _
                go_wp2
                exact ⟨⟨k + 1, by omega, by go_num, (by rw [HCK.out]; go_num), PZ, VZ⟩, by simp [intOf]; omega⟩
              · rw [decide_eq_false (show ¬ 0 < at2 from hpos)] at HG
                rw [if_neg (show ¬ 0 < at2 from hpos)] at HCK
                go_upto_region 20 with (first
                  | (go_at_call 17; refine (HG.out _ HP.out).mono ?_; rintro e6 w6 ⟨rfl, B6⟩)
                  | ((with_reducible refine row_store _ _ _ _ _ _ _ ?_ ?_ (heap_alloc_new _ _) hsQ ?_ HQ1.out ?_); (exact rfl); (exact rfl); (rw [HQS.out, HZS.out]); intro w7 G7 ch7; have B7 := Lib.hid (ch7.below (B6.out.alloc B6.out.size _) B6.out.size); have P7 := Lib.hid (HP.out.next B7.out); have V7 : Hid (HvAt w7 g t'.b) := (below_kept B7.out HV.out)))
                refine wp_region_any (by kernel_rfl) ?_
                change wpAny _ _ _ _ _ _ _ (World.drew _)
                have PZ : Hid (Pp w w7.drew b t') := ⟨⟨P7.out.at_.box, P7.out.at_.ok, P7.out.at_.tz, P7.out.at_.lo⟩, P7.out.inv, P7.out.old.drew⟩
                have VZ : Hid (HvAt w7.drew g t'.b) := V7.out
                have GZ : Hid (w7.drew.heap[w6.heap.size]? = some (.cells R 33 (0, 0))) := G7.out
                obtain ⟨z, hz9⟩ : ∃ y, y = w7.drew := ⟨_, rfl⟩
                rw [← hz9] at PZ VZ GZ ⊢
                clear hz9
                refine wpAny_of_held (S := fun y => y.heap[w6.heap.size]? = some (.cells R 33 (0, 0)) ∧ y.rangeAt g (k * 33) R.toList ∧ y.cell? ⟨g, k * 33, none⟩ = some (.int .i64 at2)) _ _ _ _ ?_
                have SD : (fun y => y.heap[w6.heap.size]? = some (.cells R 33 (0, 0)) ∧ y.rangeAt g (k * 33) R.toList ∧ y.cell? ⟨g, k * 33, none⟩ = some (.int .i64 at2)) z := ⟨GZ.out, (HVR.out _ VZ.out).1, (HVR.out _ VZ.out).2⟩
                refine anyH_take 0 76 (.agg R) SD rfl (by kernel_rfl) (by kernel_rfl) (by kernel_rfl) (fun _ _ _ h => h) (by rfl) (fun y hy => exec_arr _ _ w6.heap.size 0 _ _ rfl (rng_whole hy.1) Try.underlying33 rfl hsQ) ?_
                try simp only [Act.put, List.setIfInBounds_toArray, List.set_cons_zero, List.set_cons_succ]
                refine anyH_take 1 77 (.slice (some ⟨g, 0, none⟩) 64 64) SD rfl (by kernel_rfl) (by kernel_rfl) (by kernel_rfl) (fun _ _ _ h => h) (by rfl) (by intro y hy; obtain ⟨y0, y1, y2⟩ := hy; go_simp) ?_
                try simp only [Act.put, List.setIfInBounds_toArray, List.set_cons_zero, List.set_cons_succ]
                refine anyH_take 2 78 (.int .i64 (k : Int)) SD rfl (by kernel_rfl) (by kernel_rfl) (by kernel_rfl) (fun _ _ _ h => h) (by rfl) (by intro y hy; obtain ⟨y0, y1, y2⟩ := hy; go_simp) ?_
                try simp only [Act.put, List.setIfInBounds_toArray, List.set_cons_zero, List.set_cons_succ]
                refine anyH_take 3 79 (.pointer (some ⟨g, k * 33, none⟩)) SD rfl (by kernel_rfl) (by kernel_rfl) (by kernel_rfl) (fun _ _ _ h => h) (by rfl) (by intro y hy; obtain ⟨y0, y1, y2⟩ := hy; go_simp) ?_
                try simp only [Act.put, List.setIfInBounds_toArray, List.set_cons_zero, List.set_cons_succ]
                refine anyH_take 4 80 (.agg R) SD rfl (by kernel_rfl) (by kernel_rfl) (by kernel_rfl) (fun _ _ _ h => h) (by rfl) (fun y hy => exec_arr _ _ g (k * 33) _ _ rfl hy.2.1 Try.underlying33 rfl hsQ) ?_
                try simp only [Act.put, List.setIfInBounds_toArray, List.set_cons_zero, List.set_cons_succ]
                refine anyH_take 5 81 (.bool false) SD rfl (by kernel_rfl) (by kernel_rfl) (by kernel_rfl) (fun _ _ _ h => h) (by rfl) (by intro y hy; obtain ⟨y0, y1, y2⟩ := hy; go_simp) ?_
                try simp only [Act.put, List.setIfInBounds_toArray, List.set_cons_zero, List.set_cons_succ]
                refine anyH_take 6 82 (.bool false) SD rfl (by kernel_rfl) (by kernel_rfl) (by kernel_rfl) (fun _ _ _ h => h) (by rfl) (by intro y hy; obtain ⟨y0, y1, y2⟩ := hy; go_simp) ?_
                try simp only [Act.put, List.setIfInBounds_toArray, List.set_cons_zero, List.set_cons_succ]
                refine anyH_take 7 83 (.bool false) SD rfl (by kernel_rfl) (by kernel_rfl) (by kernel_rfl) (fun _ _ _ h => h) (by rfl) (by intro y hy; obtain ⟨y0, y1, y2⟩ := hy; go_simp) ?_
                try simp only [Act.put, List.setIfInBounds_toArray, List.set_cons_zero, List.set_cons_succ]
                refine anyH_take 8 84 (.slice (some ⟨g, 0, none⟩) 64 64) SD rfl (by kernel_rfl) (by kernel_rfl) (by kernel_rfl) (fun _ _ _ h => h) (by rfl) (by intro y hy; obtain ⟨y0, y1, y2⟩ := hy; go_simp) ?_
                try simp only [Act.put, List.setIfInBounds_toArray, List.set_cons_zero, List.set_cons_succ]
                refine anyH_take 9 85 (.int .i64 (k : Int)) SD rfl (by kernel_rfl) (by kernel_rfl) (by kernel_rfl) (fun _ _ _ h => h) (by rfl) (by intro y hy; obtain ⟨y0, y1, y2⟩ := hy; go_simp) ?_
                try simp only [Act.put, List.setIfInBounds_toArray, List.set_cons_zero, List.set_cons_succ]
                refine anyH_take 10 86 (.pointer (some ⟨g, k * 33, none⟩)) SD rfl (by kernel_rfl) (by kernel_rfl) (by kernel_rfl) (fun _ _ _ h => h) (by rfl) (by intro y hy; obtain ⟨y0, y1, y2⟩ := hy; go_simp) ?_
                try simp only [Act.put, List.setIfInBounds_toArray, List.set_cons_zero, List.set_cons_succ]
                refine anyH_take 11 87 (.pointer (some ⟨g, k * 33, none⟩)) SD rfl (by kernel_rfl) (by kernel_rfl) (by kernel_rfl) (fun _ _ _ h => h) (by rfl) (by intro y hy; obtain ⟨y0, y1, y2⟩ := hy; go_simp) ?_
                try simp only [Act.put, List.setIfInBounds_toArray, List.set_cons_zero, List.set_cons_succ]
                refine anyH_take 12 88 (.int .i64 at2) SD rfl (by kernel_rfl) (by kernel_rfl) (by kernel_rfl) (fun _ _ _ h => h) (by rfl) (by intro y hy; obtain ⟨y0, y1, y2⟩ := hy; go_simp) ?_
                try simp only [Act.put, List.setIfInBounds_toArray, List.set_cons_zero, List.set_cons_succ]
                refine anyH_take 13 89 (.bool false) SD rfl (by kernel_rfl) (by kernel_rfl) (by kernel_rfl) (fun _ _ _ h => h) (by rfl) (by intro y hy; obtain ⟨y0, y1, y2⟩ := hy; go_simp) ?_
                try simp only [Act.put, List.setIfInBounds_toArray, List.set_cons_zero, List.set_cons_succ]
                refine anyH_take 14 90 (.bool false) SD rfl (by kernel_rfl) (by kernel_rfl) (by kernel_rfl) (fun _ _ _ h => h) (by rfl) (by intro y hy; obtain ⟨y0, y1, y2⟩ := hy; go_simp) ?_
                try simp only [Act.put, List.setIfInBounds_toArray, List.set_cons_zero, List.set_cons_succ]
                refine anyH_take 15 91 (.bool false) SD rfl (by kernel_rfl) (by kernel_rfl) (by kernel_rfl) (fun _ _ _ h => h) (by rfl) (by intro y hy; obtain ⟨y0, y1, y2⟩ := hy; go_simp) ?_
                try simp only [Act.put, List.setIfInBounds_toArray, List.set_cons_zero, List.set_cons_succ]
                refine wpAnyH_done (by kernel_rfl) ?_ _
                go_wp2
                exact ⟨⟨k + 1, by omega, by go_num, (by rw [HCK.out]; try rfl), PZ, VZ⟩, by simp [intOf]; omega⟩
            · have E : k = 64 := by omega
              subst E
              have HMM : Hid (Tr.mapped t' = Tr.cntb t' 64) := rfl
              rw [HMM.out] at HMP
              generalize Tr.cntb t' 64 = cn at *
              have hnn : ((cn : Int) != (cn : Int)) = false := by simp
              clear hlt HGE HCN HCL HOKB HIN HMM
              go_wp2_with (first
                | (go_at_call 18; refine (HMP.out _ HP.out).mono ?_; rintro e8 w8 ⟨rfl, B8⟩; have P8 := Lib.hid (HP.out.next B8.out); have V8 : Hid (HvAt w8 g t'.b) := (below_kept B8.out HV.out)))
              exact ⟨⟨i + 1, by omega, by go_num, by rw [HT'.out]; exact P8, by rw [HT'.out]; exact V8⟩, by simp [intOf]; omega⟩
    · have E : i = n := by omega
      subst E
      clear hlt HX
      go_wp2_with (first
        | (go_at_call 9; refine (HW.out _).mono ?_; rintro e9 w9 ⟨rfl, B9⟩))
      go_ret
      exact ⟨rfl, Lib.hid (HP.out.old.trans (B9.out.mono HP.out.old.size))⟩
end Go.Proofs.Ytfeemeddhhgigaa

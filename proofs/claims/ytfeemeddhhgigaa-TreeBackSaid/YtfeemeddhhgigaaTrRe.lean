/-
  The law TreeBack walked.
-/
import Derived.Test.YtfeemeddhhgigaaTrRa
namespace Go.Proofs.Ytfeemeddhhgigaa
open Go.RowKit

theorem IxO.weak {A B : Nat} {y : World} {v : Value} {L : List Nat} (h : IxO B y v L) (hA : A ≤ B) : IxO A y v L := by
  refine ⟨h.1, ?_⟩
  rcases h.2 with h' | ⟨g, cap, cur, e, q0, q⟩
  · exact Or.inl h'
  · exact Or.inr ⟨g, cap, cur, e, Nat.le_trans hA q0, q⟩
theorem IxO.off_box {B b : Nat} {y : World} {v : Value} {L : List Nat} {cs : Array Value} {t : TypeId} (h : IxO B y v L) (hb : y.heap[b]? = some (.cells cs t (0, 0))) (ht : 3 ≠ t) : v.ownBlock ≠ some b := fun e2 => by
  obtain ⟨_, cur, hc⟩ := own_type h b e2
  rw [hb] at hc
  injection hc with hc
  injection hc with _ hc _
  exact ht hc.symm
section
variable {P : Program} {a : Act} {w : World} {D : Option Tmp} {T : TypeId} {ps : String} {af : Array Edge} {gd : Option (Nat × Bool)}
theorem exec_index (t e : TypeId) (x y : Operand) (A : Array Value) (k n s : Nat) (v : Value) (hx : a.eval x = .agg A) (hy : a.eval y = .int .i64 (k : Int)) (hu : P.underlying t = some (.array n e)) (hk : k < n)
    (hi : (P.info? e).map (·.size) = some s) (hp : ∀ z, (part e A (k * s)).run P z = .ok v z) :
    (execOp a.eval { dst := D, op := .index t x y, type := T, pos := ps, after := af, guard := gd }).run P w = .ok (.value v) w := by
  have hrun : (Instr.index t (.agg A) (.int .i64 (k : Int))).run P w = .ok v w := by
    have h1 : (0 : Int) ≤ (k : Int) ∧ (k : Int) < (n : Int) := by omega
    have hk2 : ¬ n ≤ k := by omega
    cases hq : P.info? e with
    | none => simp [hq] at hi
    | some j =>
      have hs : j.size = s := by simpa [hq] using hi
      simp [Instr.index, run_underlying hu, asIntOf, h1, hk2, sizeOf, typeInfo, hq, hs, hp]
  unfold execOp
  simp only [hx, hy, hrun, Sem.run_bind, Sem.run_pure, Result.andThen_ok]
theorem exec_field1 (t e o : Nat) (nm : String) (x : Operand) (A : Array Value) (v : Value) (fs : Array Field) (hx : a.eval x = .agg A) (hu : P.underlying t = some (.struct fs)) (hf : fs.toList.map (fun f => (f.name, f.type, f.offset)) = [(nm, e, o)])
    (hp : ∀ z, (part e A o).run P z = .ok v z) :
    (execOp a.eval { dst := D, op := .field t x 0, type := T, pos := ps, after := af, guard := gd }).run P w = .ok (.value v) w := by
  have hrun : (Instr.field t (.agg A) 0).run P w = .ok v w := by
    rcases fs with ⟨l⟩
    rcases l with _ | ⟨f1, _ | ⟨f2, q⟩⟩
    · simp at hf
    · simp only [List.map_cons, List.map_nil, List.cons.injEq, Prod.mk.injEq, and_true] at hf
      obtain ⟨e1, e2, e3⟩ := hf
      subst e2 e3
      simp [Instr.field, run_underlying hu, asAgg, hp]
    · simp at hf
  unfold execOp
  simp only [hx, hrun, Sem.run_bind, Sem.run_pure, Result.andThen_ok]
end
theorem Tr.rn_rt (X : List Tr.O) : ∀ i, Tr.Rt (Tr.rn X i)
  | 0 => Tr.new_rt
  | i + 1 => Tr.run_rt _ _ (Tr.rn_rt X i)
theorem Tr.sv_next (u : Tr.T) (A : Int) (hA : 1 ≤ A) (j : Nat) (hj : j < (Tr.dirtyL u).length) : Tr.saveI (Tr.svs u (Tr.sR u A) (Tr.dirtyL u) j) (((Tr.dirtyL u).getD j 0 : Nat) : Int) (Tr.sR u A j) = Tr.svs u (Tr.sR u A) (Tr.dirtyL u) (j + 1) := by
  unfold Tr.saveI
  rw [if_pos (Tr.svs_ok u A hA j hj), Int.toNat_natCast]
  rfl
theorem Tr.root_of {u : Tr.T} (h : Tr.Inv u) (hd : Tr.dirtyL u = []) (hr : Tr.Rt u) : Tr.nodeB u 0 = true ∧ (0 < (Tr.nodeR u 0).1 ↔ Tr.mapped u ≠ 0) ∧ ((Tr.nodeR u 0).1 = 0 ↔ Tr.mapped u = 0) := by
  obtain ⟨n1, n2⟩ := Tr.node_of (u := u) 0 (by omega)
  rw [show ((0 : Nat) : Int) = 0 from rfl] at n1 n2
  rcases Tr.clean_of hd 0 (by omega) with h0 | ⟨r, h0⟩
  · have := h.root; rw [h0] at this; cases this
  · rw [h0] at n1 n2
    have n2' : Tr.nodeR u 0 = r := n2
    refine ⟨n1, ?_, ?_⟩
    · rw [n2']; exact hr r h0
    · rw [n2']
      have h1 := hr r h0
      rcases h.cl0 r h0 with q | q
      · constructor
        · intro e; omega
        · intro e; exact absurd e (h1.1 q)
      · constructor
        · intro _
          exact Classical.byContradiction fun e => by have := h1.2 e; rw [q] at this; exact Tr.zr_no this
        · intro _; rw [q]; rfl
theorem Tr.leaf_of {u : Tr.T} (h : Tr.Inv u) (hd : Tr.dirtyL u = []) (i : Nat) (h1 : 1 ≤ i) (h9 : i < 9) : Tr.nodeB u (i : Int) = decide (0 < (Tr.nodeR u (i : Int)).1) := by
  obtain ⟨n1, n2⟩ := Tr.node_of (u := u) i h9
  rw [n1, n2]
  rcases Tr.clean_of hd i h9 with h0 | ⟨r, h0⟩
  · rw [h0]; rfl
  · rw [h0]
    exact (decide_eq_true (h.cl i r h1 h0)).symm
set_option maxHeartbeats 16000000 in
set_option maxRecDepth 100000 in
theorem back_any (X : List Tr.O) (p : Option Addr) (n c : Nat) (hn : X.length = n) (w : World) (hX : OpS w p X) (at_ : Int) (_ha : Pk.In64 at_) :
    Calls Try.prog 6 #[.slice p n c, .int .i64 at_] w (YesH w) := by
  have HX : Hid (∀ z i, Below w.heap.size w z → i < n → ∃ ab ao, p = some ⟨ab, ao, none⟩ ∧ z.rangeAt ab (ao + i * 299) (OpA (X.getD i Tr.o0)).toList ∧ OpOk (X.getD i Tr.o0)) := fun z i hz hi => (hX.old hz).at_ i (by omega)
  have HW := Lib.hid works_any
  have HNW : Hid (∀ z, Below w.heap.size w z → Calls Try.prog 10 #[] z fun e w' => ∃ b, e = .returned (.pointer (some ⟨b, 0, none⟩)) ∧ Hid (Pp w w' b Tr.new) ∧ Hid (Below z.heap.size z w') ∧ Hid (z.heap.size ≤ b)) := fun z hz => pp_new w z hz
  obtain ⟨Z, hz0⟩ := zfk
  have HZS := Lib.hid hz0.size
  have HZ1 := Lib.hid hz0.one
  have HZB := Lib.hid hz0.built
  have hz := (zero_of_info hz0.zero).1
  have hzn : ¬ Z = #[] := fun h => by have := HZS.out; rw [h] at this; simp at this
  have hsZ := row_size Try.sizeRef33 HZS
  have HZE : Hid (rfA Pg.zr = Z) := by
    have := hz0.val
    have e6 : R33 Pg.zr = .agg (rfA Pg.zr) := rfl
    rw [e6] at this
    injection this
  have hcase : (200 < n ∨ n ≤ 200) := by omega
  unfold YesH at HW ⊢
  rcases hcase with hbig | hsm
  · have hb' : (n : Int) > 200 := by omega
    clear HX hbig hX hn HNW
    go_enter Try.func6, Try.ntmps6
    go_wp2_with (first
      | (go_at_call 9; refine (HW.out _).mono ?_; rintro e2 w2 ⟨rfl, B2⟩))
    go_ret
    exact ⟨rfl, B2⟩
  have hs' : ¬ (n : Int) > 200 := by omega
  obtain ⟨aq, haq⟩ : ∃ aq : Nat, aq = pk at_ 1073741824 := ⟨_, rfl⟩
  have haql : (aq : Int) < 1073741824 := by rw [haq]; exact pk_lt at_ 1073741824 (by omega)
  have HPK : Hid (∀ z, Calls Try.prog 19 #[.int .i64 at_, .int .i64 1073741824] z fun r w' => w' = z ∧ r = .returned (.int .i64 (aq : Int))) := fun z => by rw [haq]; exact pick_at at_ 1073741824 (by omega) (by omega) z
  obtain ⟨A, hA⟩ : ∃ A : Nat, A = aq + 1 := ⟨_, rfl⟩
  have hwA : IntKind.i64.wrap (1 + (aq : Int)) = (A : Int) := by rw [IntWalk.i64_in _ ⟨by omega, by omega⟩]; omega
  have HA1 : Hid (1 ≤ (A : Int)) := by show _ ≤ _; omega
  have HA2 : Hid ((A : Int) ≤ 1073741824) := by show _ ≤ _; omega
  clear hX hn hsm haq hz0 hA haql
  go_enter Try.func6, Try.ntmps6
  go_wp2_with (first
    | (go_at_call 10; refine (HNW.out _ (Below.refl _ _)).mono ?_; rintro e1 w1 ⟨b, rfl, P1, _, _⟩))
  have P1' : Hid (Pp w w1 b (Tr.rn X 0)) := P1
  clear P1
  go_loopw [6] (fun v6 wr => ∃ i : Nat, i ≤ n ∧ v6 = .int .i64 i ∧ Hid (Pp w wr b (Tr.rn X i))) (fun v6 _ => n - (intOf v6).toNat)
  case atStart => exact ⟨0, Nat.zero_le _, rfl, P1'⟩
  case round =>
    clear P1'
    obtain ⟨i, hi, rfl, HP⟩ := hrel
    by_cases hlt : i < n
    · obtain ⟨ab, ao, hp, hr, hok⟩ := HX.out wr i HP.out.old hlt
      subst hp
      have HR := Lib.hid hr
      have HOS := Lib.hid (opa_size hok)
      have hsO := row_size Try.sizeOp HOS
      have HRU : Hid (∀ z, Pp w z b (Tr.rn X i) → Calls Try.prog 15 #[.pointer (some ⟨b, 0, none⟩), .agg (OpA (X.getD i Tr.o0))] z (fun e w' => ∃ v, e = .returned v ∧ Hid (Pp w w' b (Tr.rn X (i + 1))))) := fun z h => (run_any _ hok z h).mono fun _ _ ⟨v, u, h1, _, _, h4, _⟩ => ⟨_, h1, h4⟩
      have hi0 : 0 ≤ (i : Int) := by omega
      have hi1 : (i : Int) < (n : Int) := by omega
      generalize OpA (X.getD i Tr.o0) = OA at *
      clear HX hr hok hlt HNW hwA
      go_wp2_with (first
        | ((with_reducible refine rng_load _ _ _ _ _ _ ?_ HR.out Try.underlying38 ?_ hsO ?_); (exact rfl); (exact rfl))
        | (go_at_call 15; with_reducible refine (HRU.out _ HP.out).mono ?_; rintro e4 w4 ⟨v4, rfl, P4⟩))
      exact ⟨⟨i + 1, by omega, by go_num, P4⟩, by simp [intOf]; omega⟩
    · have E : n = i := by omega
      subst E
      have HRT := Lib.hid (Tr.rn_rt X n)
      obtain ⟨u, hu⟩ : ∃ u, Tr.rn X n = u := ⟨_, rfl⟩
      rw [hu] at HP HRT
      have HDI : Hid (∀ z, Pp w z b u → Calls Try.prog 20 #[.pointer (some ⟨b, 0, none⟩)] z (DiSay u z)) := fun z h => pdirty_any z h.at_
      have HD9 := Lib.hid (Tr.dirtyL_le u)
      have HSO := Lib.hid (Tr.svs_ok u (A : Int) HA1.out)
      have HSN := Lib.hid (Tr.sv_next u (A : Int) HA1.out)
      have HSB : Hid (∀ j, Tr.mapped (Tr.svs u (Tr.sR u (A : Int)) (Tr.dirtyL u) j) = Tr.mapped u) := fun j => by unfold Tr.mapped; exact Tr.cntb_congr 64 (fun k _ => by rw [Tr.svs_b])
      have HSR : Hid (∀ j, Tr.sR u (A : Int) j = if (Tr.dirtyL u).getD j 0 = 0 ∧ Tr.mapped u = 0 then Pg.zr else Tr.rf ((A : Int) + (j : Int))) := fun j => rfl
      have HFN : Hid (Tr.dirtyL (Tr.svs u (Tr.sR u (A : Int)) (Tr.dirtyL u) (Tr.dirtyL u).length) = []) := Tr.svs_done u _
      have HFR : Hid (Tr.Rt (Tr.svs u (Tr.sR u (A : Int)) (Tr.dirtyL u) (Tr.dirtyL u).length)) := Tr.svs_rt u (A : Int) HA1.out HRT.out _ (Nat.le_refl _)
      have HS0 : Hid (Pp w wr b (Tr.svs u (Tr.sR u (A : Int)) (Tr.dirtyL u) 0)) := HP
      unfold DiSay at HDI
      generalize Tr.sR u (A : Int) = SR at *
      obtain ⟨m, hm⟩ : ∃ m, (Tr.dirtyL u).length = m := ⟨_, rfl⟩
      have HM := Lib.hid hm
      rw [hm] at HSO HSN HFN HFR HD9
      generalize Tr.dirtyL u = DL at *
      clear hlt hu hm HX HRT
      go_wp2_with (first
        | (go_at_call 19; refine (HPK.out _).mono ?_; rintro e5 w5 ⟨rfl, rfl⟩)
        | (go_at_call 20; with_reducible refine (HDI.out _ HP.out).mono ?_; rintro e6 w6 ⟨v6', rfl, D6, B6⟩; have P6 := Lib.hid (HS0.out.next B6.out); obtain ⟨pd, cd, ed⟩ := D6.out.len; rw [HM.out] at ed; subst ed))
      clear HP HS0 B6 HPK hwA HDI
      go_loopw [8] (fun v8 wr => ∃ j : Nat, j ≤ m ∧ v8 = .int .i64 j ∧ Hid (Pp w wr b (Tr.svs u SR DL j)) ∧ Hid (IxO 0 wr (.slice pd m cd) DL)) (fun v8 _ => m - (intOf v8).toNat)
      case atStart => exact ⟨0, Nat.zero_le _, rfl, P6, Lib.hid (D6.out.weak (Nat.zero_le _))⟩
      case round =>
        clear P6 D6
        obtain ⟨j, hj, rfl, HP, HI⟩ := hrel
        by_cases hlt : j < m
        · have hd9 := HD9.out
          have ha2 := HA2.out
          have ha1 := HA1.out
          have hj0 : 0 ≤ (j : Int) := by omega
          have hj1 : (j : Int) < (m : Int) := by omega
          obtain ⟨d, hdd⟩ : ∃ d, DL.getD j 0 = d := ⟨_, rfl⟩
          have HCELL : Hid (∀ y, IxO 0 y (.slice pd m cd) DL → ∃ g, pd = some ⟨g, 0, none⟩ ∧ y.cell? ⟨g, j, none⟩ = some (.int .i64 (d : Int))) := fun y hy => by
            obtain ⟨g, c', e, _, _, hc⟩ := hy.at_ j d (by rw [← hdd, List.getD_eq_getElem?_getD, List.getElem?_eq_getElem (by rw [HM.out]; exact hlt)]; rfl)
            injection e with e _ _
            exact ⟨g, e, hc⟩
          obtain ⟨gd, hgd, _⟩ := HCELL.out _ HI.out
          subst hgd
          have HCE : Hid (∀ y, IxO 0 y (.slice (some ⟨gd, 0, none⟩) m cd) DL → y.cell? ⟨gd, j, none⟩ = some (.int .i64 (d : Int))) := fun y hy => by
            obtain ⟨_, e1, h1⟩ := HCELL.out y hy
            cases e1
            exact h1
          obtain ⟨aj, haj⟩ : ∃ aj : Nat, aj = A + j := ⟨_, rfl⟩
          have hwj : IntKind.i64.wrap ((A : Int) + (j : Int)) = (aj : Int) := by rw [IntWalk.i64_in _ ⟨by omega, by omega⟩]; omega
          have HRJ : Hid (Pg.Ok (Tr.rf (aj : Int))) := rf_ok _ (by unfold Pk.In64; omega)
          have hsr := HSR.out j
          rw [hdd, show (A : Int) + (j : Int) = (aj : Int) by omega] at hsr
          have hsn := HSN.out j hlt
          have hso := HSO.out j hlt
          rw [hdd] at hsn hso
          have HMP : Hid (∀ z, Pp w z b (Tr.svs u SR DL j) → Calls Try.prog 18 #[.pointer (some ⟨b, 0, none⟩)] z fun e w' => e = .returned (.int .i64 (Tr.mapped u : Int)) ∧ Hid (Below z.heap.size z w')) := fun z h => by
            have q := pmapped_any z h.at_
            rw [HSB.out] at q
            exact q
          have HSV : Hid (∀ z, Pg.Ok (SR j) → Pp w z b (Tr.svs u SR DL j) → Calls Try.prog 22 #[.pointer (some ⟨b, 0, none⟩), .int .i64 (d : Int), .agg (rfA (SR j))] z (fun e w' => e = .returned (.int .i64 0) ∧ Hid (Pp w w' b (Tr.svs u SR DL (j + 1))) ∧ Hid (Only b z w'))) := fun z hk h => (pp_saved (d : Int) _ hk h).mono fun _ _ ⟨h1, h2, h3⟩ => ⟨by rw [h1, hso], by rw [← hsn]; exact h2, h3⟩
          have HLJ : Hid (∀ y, Calls Try.prog 21 #[.int .i64 (aj : Int)] y fun e w' => e = .returned (.agg (rfA (Tr.rf (aj : Int)))) ∧ Hid (Below y.heap.size y w')) := fun y => lref_any _ y
          have HJS := Lib.hid (rfa_size HRJ.out)
          have HJ1 := Lib.hid (rfa_one (Tr.rf (aj : Int)))
          have hsJ := row_size Try.sizeRef33 HJS
          generalize Tr.mapped u = mp at *
          have hcs : (d = 0 ∧ mp = 0 ∧ SR j = Pg.zr) ∨ (d = 0 ∧ mp ≠ 0 ∧ SR j = Tr.rf (aj : Int)) ∨ (d ≠ 0 ∧ SR j = Tr.rf (aj : Int)) := by
            by_cases h1 : d = 0
            · by_cases h2 : mp = 0
              · exact Or.inl ⟨h1, h2, by rw [hsr, if_pos ⟨h1, h2⟩]⟩
              · exact Or.inr (Or.inl ⟨h1, h2, by rw [hsr, if_neg (fun q => h2 q.2)]⟩)
            · exact Or.inr (Or.inr ⟨h1, by rw [hsr, if_neg (fun q => h1 q.1)]⟩)
          have HGBD : Hid (∀ y, Pp w y b (Tr.svs u SR DL j) → IxO 0 y (.slice (some ⟨gd, 0, none⟩) m cd) DL → gd ≠ b) := fun y hy hi e => (hi.off_box hy.at_.box (by decide)) (by rw [e]; rfl)
          clear HCELL HSO HSN HSB HSR HFN HFR hsr hsn hso hlt hdd haj HM ha2 ha1 HD9 HNW
          rcases hcs with ⟨rfl, rfl, hS⟩ | ⟨rfl, hm0, hS⟩ | ⟨hd0, hS⟩
          · skip
            rw [hS] at HSV
            rw [HZE.out] at HSV
            rw [show ((0 : Nat) : Int) = 0 from rfl] at HSV HMP HCE
            have HSV2 := Lib.hid (fun z h => HSV.out z pg_zr h)
            generalize rfA (Tr.rf (aj : Int)) = RJ at *
            clear HSV hS
            go_upto_region 16 with (first
              | (go_at_call 21; refine (HLJ.out _).mono ?_; rintro e10 w10 ⟨rfl, B10⟩)
              | ((with_reducible refine row_store _ _ _ w10.heap.size _ _ _ ?_ ?_ (heap_alloc_new w10 _) hsJ ?_ HJ1.out ?_); (exact rfl); (exact rfl); (rw [HJS.out, HZS.out]); intro w11 G11 ch11; have B11 := Lib.hid (ch11.below (B10.out.alloc B10.out.size _) B10.out.size); have P11 := Lib.hid (HP.out.next B11.out); have I11 := Lib.hid (HI.out.old B11.out); have d11 := HCE.out _ I11.out)
              | (go_at_call 18; with_reducible refine (HMP.out _ P11.out).mono ?_; rintro e12 w12 ⟨rfl, B12⟩; have P12 := Lib.hid (P11.out.next B12.out); have I12 := Lib.hid (I11.out.old B12.out); have G12 := Lib.hid (below_kept B12.out G11.out))
              | ((with_reducible refine row_build0 _ _ HZB.out ?_))
              | ((with_reducible refine row_store _ _ _ w10.heap.size _ _ _ ?_ ?_ G12.out hsZ ?_ HZ1.out ?_); (exact rfl); (exact rfl); (rw [HJS.out, HZS.out]); intro w13 G13 ch13; have P13 := Lib.hid (P12.out.other ch13.only (by have h1 := HP.out.at_.lt; have h2 := B10.out.size; omega) (Nat.le_trans HP.out.old.size B10.out.size)); have I13 := Lib.hid (I12.out.only ch13.only (I12.out.off_box G12.out (by decide)))))
            refine wp_region_any (by kernel_rfl) ?_
            change wpAny _ _ _ _ _ _ _ (World.drew _)
            have PZ : Hid (Pp w w13.drew b (Tr.svs u SR DL j)) := ⟨⟨P13.out.at_.box, P13.out.at_.ok, P13.out.at_.tz, P13.out.at_.lo⟩, P13.out.inv, P13.out.old.drew⟩
            have IZ : Hid (IxO 0 w13.drew (.slice (some ⟨gd, 0, none⟩) m cd) DL) := I13.out
            have GZ : Hid (w13.drew.heap[w10.heap.size]? = some (.cells Z 33 (0, 0))) := G13.out
            obtain ⟨z, hz9⟩ : ∃ y, y = w13.drew := ⟨_, rfl⟩
            rw [← hz9] at PZ IZ GZ ⊢
            clear hz9
            refine wpAny_of_held (S := fun y => y.cell? ⟨gd, j, none⟩ = some (.int .i64 0) ∧ y.heap[w10.heap.size]? = some (.cells Z 33 (0, 0))) _ _ _ _ ?_
            have SD : (fun y => y.cell? ⟨gd, j, none⟩ = some (.int .i64 0) ∧ y.heap[w10.heap.size]? = some (.cells Z 33 (0, 0))) z := ⟨HCE.out _ IZ.out, GZ.out⟩
            have hgb : gd ≠ b := HGBD.out _ PZ.out IZ.out
            have hgb2 : w10.heap.size ≠ b := by have h1 := HP.out.at_.lt; have h2 := B10.out.size; omega
            refine anyH_take 0 59 (.pointer (some ⟨b, 0, none⟩)) SD rfl (by kernel_rfl) (by kernel_rfl) (by kernel_rfl) (fun _ _ _ h => h) (by rfl) (by intro y hy; obtain ⟨y0, y1⟩ := hy; go_simp) ?_
            try simp only [Act.put, List.setIfInBounds_toArray, List.set_cons_zero, List.set_cons_succ]
            refine anyH_take 1 60 (.slice (some ⟨gd, 0, none⟩) m cd) SD rfl (by kernel_rfl) (by kernel_rfl) (by kernel_rfl) (fun _ _ _ h => h) (by rfl) (by intro y hy; obtain ⟨y0, y1⟩ := hy; go_simp) ?_
            try simp only [Act.put, List.setIfInBounds_toArray, List.set_cons_zero, List.set_cons_succ]
            refine anyH_take 2 61 (.int .i64 (j : Int)) SD rfl (by kernel_rfl) (by kernel_rfl) (by kernel_rfl) (fun _ _ _ h => h) (by rfl) (by intro y hy; obtain ⟨y0, y1⟩ := hy; go_simp) ?_
            try simp only [Act.put, List.setIfInBounds_toArray, List.set_cons_zero, List.set_cons_succ]
            refine anyH_take 3 62 (.pointer (some ⟨gd, j, none⟩)) SD rfl (by kernel_rfl) (by kernel_rfl) (by kernel_rfl) (fun _ _ _ h => h) (by rfl) (by intro y hy; obtain ⟨y0, y1⟩ := hy; go_simp) ?_
            try simp only [Act.put, List.setIfInBounds_toArray, List.set_cons_zero, List.set_cons_succ]
            refine anyH_take 4 63 (.int .i64 0) SD rfl (by kernel_rfl) (by kernel_rfl) (by kernel_rfl) (fun _ _ _ h => h) (by rfl) (by intro y hy; obtain ⟨y0, y1⟩ := hy; go_simp) ?_
            try simp only [Act.put, List.setIfInBounds_toArray, List.set_cons_zero, List.set_cons_succ]
            refine anyH_take 5 64 (.agg Z) SD rfl (by kernel_rfl) (by kernel_rfl) (by kernel_rfl) (fun _ _ _ h => h) (by rfl) (fun y hy => exec_arr _ _ w10.heap.size 0 _ _ rfl (rng_whole hy.2) Try.underlying33 rfl hsZ) ?_
            try simp only [Act.put, List.setIfInBounds_toArray, List.set_cons_zero, List.set_cons_succ]
            refine anyH_one 6 (by kernel_rfl) ?_
            refine wpOp_step rfl (fun Kc hKc => ?_)
            go_simp
            refine (HSV2.out _ PZ.out).mono ?_
            rintro e14 w14 ⟨rfl, P14, O14⟩
            have I14 := Lib.hid (IZ.out.only O14.out (IZ.out.off_box PZ.out.at_.box (by decide)))
            have SD14 : (fun y => y.cell? ⟨gd, j, none⟩ = some (.int .i64 0) ∧ y.heap[w10.heap.size]? = some (.cells Z 33 (0, 0))) w14 := ⟨HCE.out _ I14.out, (O14.out.block _ (lt_of_block GZ.out) hgb2).trans GZ.out⟩
            dsimp only
            refine hKc _ _ ⟨SD14, ?_⟩
            clear hKc Kc SD
            have SD := SD14
            try simp only [Act.put, List.setIfInBounds_toArray, List.set_cons_zero, List.set_cons_succ]
            refine anyH_take 7 66 (.bool false) SD rfl (by kernel_rfl) (by kernel_rfl) (by kernel_rfl) (fun _ _ _ h => h) (by rfl) (by intro y hy; obtain ⟨y0, y1⟩ := hy; go_simp) ?_
            try simp only [Act.put, List.setIfInBounds_toArray, List.set_cons_zero, List.set_cons_succ]
            refine wpAnyH_done (by kernel_rfl) ?_ _
            go_wp2
            exact ⟨⟨j + 1, by omega, by go_num, P14, I14⟩, by simp [intOf]; omega⟩
          · skip
            rw [hS] at HSV
            rw [show ((0 : Nat) : Int) = 0 from rfl] at HSV HCE
            have hm1 : ((mp : Int) == 0) = false := by simp; omega
            have HSV2 := Lib.hid (fun z h => HSV.out z HRJ.out h)
            generalize rfA (Tr.rf (aj : Int)) = RJ at *
            clear HSV hS
            go_upto_region 16 with (first
              | (go_at_call 21; refine (HLJ.out _).mono ?_; rintro e10 w10 ⟨rfl, B10⟩)
              | ((with_reducible refine row_store _ _ _ w10.heap.size _ _ _ ?_ ?_ (heap_alloc_new w10 _) hsJ ?_ HJ1.out ?_); (exact rfl); (exact rfl); (rw [HJS.out, HZS.out]); intro w11 G11 ch11; have B11 := Lib.hid (ch11.below (B10.out.alloc B10.out.size _) B10.out.size); have P11 := Lib.hid (HP.out.next B11.out); have I11 := Lib.hid (HI.out.old B11.out); have d11 := HCE.out _ I11.out)
              | (go_at_call 18; with_reducible refine (HMP.out _ P11.out).mono ?_; rintro e12 w12 ⟨rfl, B12⟩; have P12 := Lib.hid (P11.out.next B12.out); have I12 := Lib.hid (I11.out.old B12.out); have G12 := Lib.hid (below_kept B12.out G11.out)))
            refine wp_region_any (by kernel_rfl) ?_
            change wpAny _ _ _ _ _ _ _ (World.drew _)
            have PZ : Hid (Pp w w12.drew b (Tr.svs u SR DL j)) := ⟨⟨P12.out.at_.box, P12.out.at_.ok, P12.out.at_.tz, P12.out.at_.lo⟩, P12.out.inv, P12.out.old.drew⟩
            have IZ : Hid (IxO 0 w12.drew (.slice (some ⟨gd, 0, none⟩) m cd) DL) := I12.out
            have GZ : Hid (w12.drew.heap[w10.heap.size]? = some (.cells RJ 33 (0, 0))) := G12.out
            obtain ⟨z, hz9⟩ : ∃ y, y = w12.drew := ⟨_, rfl⟩
            rw [← hz9] at PZ IZ GZ ⊢
            clear hz9
            refine wpAny_of_held (S := fun y => y.cell? ⟨gd, j, none⟩ = some (.int .i64 0) ∧ y.heap[w10.heap.size]? = some (.cells RJ 33 (0, 0))) _ _ _ _ ?_
            have SD : (fun y => y.cell? ⟨gd, j, none⟩ = some (.int .i64 0) ∧ y.heap[w10.heap.size]? = some (.cells RJ 33 (0, 0))) z := ⟨HCE.out _ IZ.out, GZ.out⟩
            have hgb : gd ≠ b := HGBD.out _ PZ.out IZ.out
            have hgb2 : w10.heap.size ≠ b := by have h1 := HP.out.at_.lt; have h2 := B10.out.size; omega
            refine anyH_take 0 59 (.pointer (some ⟨b, 0, none⟩)) SD rfl (by kernel_rfl) (by kernel_rfl) (by kernel_rfl) (fun _ _ _ h => h) (by rfl) (by intro y hy; obtain ⟨y0, y1⟩ := hy; go_simp) ?_
            try simp only [Act.put, List.setIfInBounds_toArray, List.set_cons_zero, List.set_cons_succ]
            refine anyH_take 1 60 (.slice (some ⟨gd, 0, none⟩) m cd) SD rfl (by kernel_rfl) (by kernel_rfl) (by kernel_rfl) (fun _ _ _ h => h) (by rfl) (by intro y hy; obtain ⟨y0, y1⟩ := hy; go_simp) ?_
            try simp only [Act.put, List.setIfInBounds_toArray, List.set_cons_zero, List.set_cons_succ]
            refine anyH_take 2 61 (.int .i64 (j : Int)) SD rfl (by kernel_rfl) (by kernel_rfl) (by kernel_rfl) (fun _ _ _ h => h) (by rfl) (by intro y hy; obtain ⟨y0, y1⟩ := hy; go_simp) ?_
            try simp only [Act.put, List.setIfInBounds_toArray, List.set_cons_zero, List.set_cons_succ]
            refine anyH_take 3 62 (.pointer (some ⟨gd, j, none⟩)) SD rfl (by kernel_rfl) (by kernel_rfl) (by kernel_rfl) (fun _ _ _ h => h) (by rfl) (by intro y hy; obtain ⟨y0, y1⟩ := hy; go_simp) ?_
            try simp only [Act.put, List.setIfInBounds_toArray, List.set_cons_zero, List.set_cons_succ]
            refine anyH_take 4 63 (.int .i64 0) SD rfl (by kernel_rfl) (by kernel_rfl) (by kernel_rfl) (fun _ _ _ h => h) (by rfl) (by intro y hy; obtain ⟨y0, y1⟩ := hy; go_simp) ?_
            try simp only [Act.put, List.setIfInBounds_toArray, List.set_cons_zero, List.set_cons_succ]
            refine anyH_take 5 64 (.agg RJ) SD rfl (by kernel_rfl) (by kernel_rfl) (by kernel_rfl) (fun _ _ _ h => h) (by rfl) (fun y hy => exec_arr _ _ w10.heap.size 0 _ _ rfl (rng_whole hy.2) Try.underlying33 rfl hsJ) ?_
            try simp only [Act.put, List.setIfInBounds_toArray, List.set_cons_zero, List.set_cons_succ]
            refine anyH_one 6 (by kernel_rfl) ?_
            refine wpOp_step rfl (fun Kc hKc => ?_)
            go_simp
            refine (HSV2.out _ PZ.out).mono ?_
            rintro e14 w14 ⟨rfl, P14, O14⟩
            have I14 := Lib.hid (IZ.out.only O14.out (IZ.out.off_box PZ.out.at_.box (by decide)))
            have SD14 : (fun y => y.cell? ⟨gd, j, none⟩ = some (.int .i64 0) ∧ y.heap[w10.heap.size]? = some (.cells RJ 33 (0, 0))) w14 := ⟨HCE.out _ I14.out, (O14.out.block _ (lt_of_block GZ.out) hgb2).trans GZ.out⟩
            dsimp only
            refine hKc _ _ ⟨SD14, ?_⟩
            clear hKc Kc SD
            have SD := SD14
            try simp only [Act.put, List.setIfInBounds_toArray, List.set_cons_zero, List.set_cons_succ]
            refine anyH_take 7 66 (.bool false) SD rfl (by kernel_rfl) (by kernel_rfl) (by kernel_rfl) (fun _ _ _ h => h) (by rfl) (by intro y hy; obtain ⟨y0, y1⟩ := hy; go_simp) ?_
            try simp only [Act.put, List.setIfInBounds_toArray, List.set_cons_zero, List.set_cons_succ]
            refine wpAnyH_done (by kernel_rfl) ?_ _
            go_wp2
            exact ⟨⟨j + 1, by omega, by go_num, P14, I14⟩, by simp [intOf]; omega⟩
          · skip
            rw [hS] at HSV
            have hd1 : ((d : Int) == 0) = false := by simp; omega
            have HSV2 := Lib.hid (fun z h => HSV.out z HRJ.out h)
            generalize rfA (Tr.rf (aj : Int)) = RJ at *
            clear HSV hS
            go_upto_region 16 with (first
              | (go_at_call 21; refine (HLJ.out _).mono ?_; rintro e10 w10 ⟨rfl, B10⟩)
              | ((with_reducible refine row_store _ _ _ w10.heap.size _ _ _ ?_ ?_ (heap_alloc_new w10 _) hsJ ?_ HJ1.out ?_); (exact rfl); (exact rfl); (rw [HJS.out, HZS.out]); intro w11 G11 ch11; have B11 := Lib.hid (ch11.below (B10.out.alloc B10.out.size _) B10.out.size); have P11 := Lib.hid (HP.out.next B11.out); have I11 := Lib.hid (HI.out.old B11.out); have d11 := HCE.out _ I11.out))
            refine wp_region_any (by kernel_rfl) ?_
            change wpAny _ _ _ _ _ _ _ (World.drew _)
            have PZ : Hid (Pp w w11.drew b (Tr.svs u SR DL j)) := ⟨⟨P11.out.at_.box, P11.out.at_.ok, P11.out.at_.tz, P11.out.at_.lo⟩, P11.out.inv, P11.out.old.drew⟩
            have IZ : Hid (IxO 0 w11.drew (.slice (some ⟨gd, 0, none⟩) m cd) DL) := I11.out
            have GZ : Hid (w11.drew.heap[w10.heap.size]? = some (.cells RJ 33 (0, 0))) := G11.out
            obtain ⟨z, hz9⟩ : ∃ y, y = w11.drew := ⟨_, rfl⟩
            rw [← hz9] at PZ IZ GZ ⊢
            clear hz9
            refine wpAny_of_held (S := fun y => y.cell? ⟨gd, j, none⟩ = some (.int .i64 (d : Int)) ∧ y.heap[w10.heap.size]? = some (.cells RJ 33 (0, 0))) _ _ _ _ ?_
            have SD : (fun y => y.cell? ⟨gd, j, none⟩ = some (.int .i64 (d : Int)) ∧ y.heap[w10.heap.size]? = some (.cells RJ 33 (0, 0))) z := ⟨HCE.out _ IZ.out, GZ.out⟩
            have hgb : gd ≠ b := HGBD.out _ PZ.out IZ.out
            have hgb2 : w10.heap.size ≠ b := by have h1 := HP.out.at_.lt; have h2 := B10.out.size; omega
            refine anyH_take 0 59 (.pointer (some ⟨b, 0, none⟩)) SD rfl (by kernel_rfl) (by kernel_rfl) (by kernel_rfl) (fun _ _ _ h => h) (by rfl) (by intro y hy; obtain ⟨y0, y1⟩ := hy; go_simp) ?_
            try simp only [Act.put, List.setIfInBounds_toArray, List.set_cons_zero, List.set_cons_succ]
            refine anyH_take 1 60 (.slice (some ⟨gd, 0, none⟩) m cd) SD rfl (by kernel_rfl) (by kernel_rfl) (by kernel_rfl) (fun _ _ _ h => h) (by rfl) (by intro y hy; obtain ⟨y0, y1⟩ := hy; go_simp) ?_
            try simp only [Act.put, List.setIfInBounds_toArray, List.set_cons_zero, List.set_cons_succ]
            refine anyH_take 2 61 (.int .i64 (j : Int)) SD rfl (by kernel_rfl) (by kernel_rfl) (by kernel_rfl) (fun _ _ _ h => h) (by rfl) (by intro y hy; obtain ⟨y0, y1⟩ := hy; go_simp) ?_
            try simp only [Act.put, List.setIfInBounds_toArray, List.set_cons_zero, List.set_cons_succ]
            refine anyH_take 3 62 (.pointer (some ⟨gd, j, none⟩)) SD rfl (by kernel_rfl) (by kernel_rfl) (by kernel_rfl) (fun _ _ _ h => h) (by rfl) (by intro y hy; obtain ⟨y0, y1⟩ := hy; go_simp) ?_
            try simp only [Act.put, List.setIfInBounds_toArray, List.set_cons_zero, List.set_cons_succ]
            refine anyH_take 4 63 (.int .i64 (d : Int)) SD rfl (by kernel_rfl) (by kernel_rfl) (by kernel_rfl) (fun _ _ _ h => h) (by rfl) (by intro y hy; obtain ⟨y0, y1⟩ := hy; go_simp) ?_
            try simp only [Act.put, List.setIfInBounds_toArray, List.set_cons_zero, List.set_cons_succ]
            refine anyH_take 5 64 (.agg RJ) SD rfl (by kernel_rfl) (by kernel_rfl) (by kernel_rfl) (fun _ _ _ h => h) (by rfl) (fun y hy => exec_arr _ _ w10.heap.size 0 _ _ rfl (rng_whole hy.2) Try.underlying33 rfl hsJ) ?_
            try simp only [Act.put, List.setIfInBounds_toArray, List.set_cons_zero, List.set_cons_succ]
            refine anyH_one 6 (by kernel_rfl) ?_
            refine wpOp_step rfl (fun Kc hKc => ?_)
            go_simp
            refine (HSV2.out _ PZ.out).mono ?_
            rintro e14 w14 ⟨rfl, P14, O14⟩
            have I14 := Lib.hid (IZ.out.only O14.out (IZ.out.off_box PZ.out.at_.box (by decide)))
            have SD14 : (fun y => y.cell? ⟨gd, j, none⟩ = some (.int .i64 (d : Int)) ∧ y.heap[w10.heap.size]? = some (.cells RJ 33 (0, 0))) w14 := ⟨HCE.out _ I14.out, (O14.out.block _ (lt_of_block GZ.out) hgb2).trans GZ.out⟩
            dsimp only
            refine hKc _ _ ⟨SD14, ?_⟩
            clear hKc Kc SD
            have SD := SD14
            try simp only [Act.put, List.setIfInBounds_toArray, List.set_cons_zero, List.set_cons_succ]
            refine anyH_take 7 66 (.bool false) SD rfl (by kernel_rfl) (by kernel_rfl) (by kernel_rfl) (fun _ _ _ h => h) (by rfl) (by intro y hy; obtain ⟨y0, y1⟩ := hy; go_simp) ?_
            try simp only [Act.put, List.setIfInBounds_toArray, List.set_cons_zero, List.set_cons_succ]
            refine wpAnyH_done (by kernel_rfl) ?_ _
            go_wp2
            exact ⟨⟨j + 1, by omega, by go_num, P14, I14⟩, by simp [intOf]; omega⟩
        · have E : m = j := by omega
          subst E
          have HINV := Lib.hid HP.out.inv
          obtain ⟨hb0, hrt1, hrt2⟩ := Tr.root_of HINV.out HFN.out HFR.out
          have HLF := Lib.hid (Tr.leaf_of HINV.out HFN.out)
          obtain ⟨u', hu'⟩ : ∃ u', Tr.svs u SR DL m = u' := ⟨_, rfl⟩
          rw [hu'] at HP HFN HFR HINV hb0 hrt1 hrt2 HLF
          have HLA := Lib.hid (Tr.ld_all u' HINV.out HFN.out)
          have HLS := Lib.hid (Tr.ld_same u' HINV.out HFN.out)
          have HDI : Hid (∀ z, Pp w z b u' → Calls Try.prog 20 #[.pointer (some ⟨b, 0, none⟩)] z (fun e w' => ∃ p c, e = .returned (.slice p 0 c) ∧ Hid (Below z.heap.size z w'))) := fun z h => (pdirty_any z h.at_).mono fun _ _ ⟨v, h1, h2, h3⟩ => by
            rw [HFN.out] at h2
            obtain ⟨p, c, e⟩ := h2.out.len
            exact ⟨p, c, by rw [h1, e]; rfl, h3⟩
          have HMP : Hid (∀ z, Pp w z b u' → Calls Try.prog 18 #[.pointer (some ⟨b, 0, none⟩)] z fun e w' => e = .returned (.int .i64 (Tr.mapped u' : Int)) ∧ Hid (Below z.heap.size z w')) := fun z h => pmapped_any z h.at_
          have HOKT := Lib.hid HP.out.at_.ok
          have HRO : Hid (∀ j : Nat, Pg.Ok (Tr.nodeR u' (j : Int))) := fun j => by
            unfold Tr.nodeR
            split
            · exact nr_ok HOKT.out _
            · exact pg_zr
          have HN0 : Hid (∀ z, Pp w z b u' → Calls Try.prog 23 #[.pointer (some ⟨b, 0, none⟩), .int .i64 0] z (RbSay (Tr.nodeR u' 0) true z)) := fun z h => by
            have q := pnode_any 0 z h.at_
            rw [hb0] at q
            exact q
          have HP0 : Hid (∀ z, Pp w z b u' → Calls Try.prog 25 #[.pointer (some ⟨b, 0, none⟩), .int .i64 0] z (PgSay (Tr.pageL u' 0) z)) := fun z h => ppage_any 0 z h.at_
          have HLD0 : Hid (0 < (Tr.nodeR u' 0).1 → ∀ z bx, Pp w z bx Tr.new → Calls Try.prog 24 #[.pointer (some ⟨bx, 0, none⟩), .int .i64 0, PV (Tr.pageL u' 0), .agg (rfA (Tr.nodeR u' 0))] z (fun e w' => e = .returned (.int .i64 0) ∧ Hid (Pp w w' bx (Tr.ld u' 0)) ∧ Hid (Only bx z w'))) := fun hp z bx h => (pp_load 0 (Tr.pageL u' 0) (Tr.page_ok HOKT.out 0) (Tr.nodeR u' 0) (HRO.out 0) h).mono fun _ _ ⟨h1, h2, h3⟩ => ⟨by rw [h1, Tr.ld_root u' hp], by
              have e : Tr.ld u' 0 = Tr.loadI Tr.new 0 (Tr.pageL u' 0) (Tr.nodeR u' 0) := if_pos hp
              rw [e]; exact h2, h3⟩
          have HLN0 : Hid (¬ 0 < (Tr.nodeR u' 0).1 → Tr.ld u' 0 = Tr.new) := fun hp => if_neg hp
          clear hlt HSO HSN HSB HSR HFR HM HI HD9 hu'
          obtain ⟨R, Z', eA, e33, hkR, _⟩ := rfz (HRO.out 0)
          rw [show ((0 : Nat) : Int) = 0 from rfl] at eA e33 hkR
          have HRS := Lib.hid hkR.size
          have HR1 := Lib.hid hkR.one
          have hf0 := hkR.first
          have hsR := row_size Try.sizeRef33 HRS
          obtain ⟨A0, RA0, eP0, hkP0⟩ := pgk (Tr.page_ok HOKT.out 0)
          unfold RbSay at HN0
          rw [e33] at HN0
          unfold PgSay at HP0
          rw [eP0] at HP0 HLD0
          rw [eA] at HLD0
          obtain ⟨at0, hat0⟩ : ∃ a, (Tr.nodeR u' 0).1 = a := ⟨_, rfl⟩
          rw [hat0] at hrt1 hrt2 HLD0 HLN0 hf0
          obtain ⟨mp, hmp⟩ : ∃ mp, Tr.mapped u' = mp := ⟨_, rfl⟩
          rw [hmp] at hrt1 hrt2 HMP
          go_upto_region 22 with (first
            | (go_at_call 20; with_reducible refine (HDI.out _ HP.out).mono ?_; rintro e20 w20 ⟨p20, c20, rfl, B20⟩; have P20 := Lib.hid (HP.out.next B20.out))
            | (go_at_call 10; with_reducible refine (HNW.out _ P20.out.old).mono ?_; rintro e21 w21 ⟨bx, rfl, X21, B21, L21⟩; have P21 := Lib.hid (P20.out.next B21.out))
            | (go_at_call 23; with_reducible refine (HN0.out _ P21.out).mono ?_; rintro e22 w22 ⟨rfl, B22⟩)
            | ((with_reducible refine row_store _ _ _ w22.heap.size _ _ _ ?_ ?_ (heap_alloc_new w22 _) hsR ?_ HR1.out ?_); (exact rfl); (exact rfl); (rw [HRS.out, HZS.out]); intro w23 G23 ch23; have B23 := Lib.hid (ch23.below (B22.out.alloc B22.out.size _) B22.out.size); have P23 := Lib.hid (P21.out.next B23.out); have X23 := Lib.hid (X21.out.next B23.out)))
          have HNB : Hid (b ≠ bx) := by have h1 := P20.out.at_.lt; have h2 := L21.out; show _ ≠ _; omega
          have HGX : Hid (w22.heap.size ≠ bx) := by have h1 := X21.out.at_.lt; have h2 := B22.out.size; show _ ≠ _; omega
          have hcell : ∀ y : World, y.heap[w22.heap.size]? = some (.cells R 33 (0, 0)) → y.cell? ⟨w22.heap.size, 0, none⟩ = some (.int .i64 at0) := fun y hy => by rw [cell_of_row y _ _ _ _ _ hy]; exact hf0
          clear HP P20 P21 X21 B20 B21 L21 B22 B23 HNW hkR hkP0 eA e33 eP0 hat0 hf0
          have hcs : (at0 > 0 ∧ mp ≠ 0) ∨ (¬ at0 > 0 ∧ at0 = 0 ∧ mp = 0) := by
            by_cases h1 : 0 < at0
            · exact Or.inl ⟨h1, hrt1.1 h1⟩
            · right
              have h2 : mp = 0 := Classical.byContradiction fun q => h1 (hrt1.2 q)
              exact ⟨h1, hrt2.2 h2, h2⟩
          rcases hcs with ⟨hpos, hm0⟩ | ⟨hpos, rfl, rfl⟩
          · have hm1 : ((mp : Int) == 0) = false := by simp; omega
            have hm2 : (at0 == 0) = false := by simp; omega
            refine wp_region_any (by kernel_rfl) ?_
            change wpAny _ _ _ _ _ _ _ (World.drew _)
            have PZ : Hid (Pp w w23.drew b u') := ⟨⟨P23.out.at_.box, P23.out.at_.ok, P23.out.at_.tz, P23.out.at_.lo⟩, P23.out.inv, P23.out.old.drew⟩
            have XZ : Hid (Pp w w23.drew bx Tr.new) := ⟨⟨X23.out.at_.box, X23.out.at_.ok, X23.out.at_.tz, X23.out.at_.lo⟩, X23.out.inv, X23.out.old.drew⟩
            have GZ : Hid (w23.drew.heap[w22.heap.size]? = some (.cells R 33 (0, 0))) := G23.out
            obtain ⟨z, hz9⟩ : ∃ y, y = w23.drew := ⟨_, rfl⟩
            rw [← hz9] at PZ XZ GZ ⊢
            clear hz9
            refine wpAny_of_held (S := fun y => y.heap[w22.heap.size]? = some (.cells R 33 (0, 0)) ∧ y.cell? ⟨w22.heap.size, 0, none⟩ = some (.int .i64 at0)) _ _ _ _ ?_
            have SD : (fun y => y.heap[w22.heap.size]? = some (.cells R 33 (0, 0)) ∧ y.cell? ⟨w22.heap.size, 0, none⟩ = some (.int .i64 at0)) z := ⟨GZ.out, hcell _ GZ.out⟩
            refine anyH_take 0 77 (.bool true) SD rfl (by kernel_rfl) (by kernel_rfl) (by kernel_rfl) (fun _ _ _ h => h) (by rfl) (by intro y hy; obtain ⟨y0, y1⟩ := hy; go_simp) ?_
            try simp only [Act.put, List.setIfInBounds_toArray, List.set_cons_zero, List.set_cons_succ]
            refine anyH_take 1 78 (.bool false) SD rfl (by kernel_rfl) (by kernel_rfl) (by kernel_rfl) (fun _ _ _ h => h) (by rfl) (by intro y hy; obtain ⟨y0, y1⟩ := hy; go_simp) ?_
            try simp only [Act.put, List.setIfInBounds_toArray, List.set_cons_zero, List.set_cons_succ]
            refine anyH_take 2 79 (.bool false) SD rfl (by kernel_rfl) (by kernel_rfl) (by kernel_rfl) (fun _ _ _ h => h) (by rfl) (by intro y hy; obtain ⟨y0, y1⟩ := hy; go_simp) ?_
            try simp only [Act.put, List.setIfInBounds_toArray, List.set_cons_zero, List.set_cons_succ]
            refine anyH_take 3 80 (.pointer (some ⟨w22.heap.size, 0, none⟩)) SD rfl (by kernel_rfl) (by kernel_rfl) (by kernel_rfl) (fun _ _ _ h => h) (by rfl) (by intro y hy; obtain ⟨y0, y1⟩ := hy; go_simp) ?_
            try simp only [Act.put, List.setIfInBounds_toArray, List.set_cons_zero, List.set_cons_succ]
            refine anyH_take 4 81 (.int .i64 at0) SD rfl (by kernel_rfl) (by kernel_rfl) (by kernel_rfl) (fun _ _ _ h => h) (by rfl) (by intro y hy; obtain ⟨y0, y1⟩ := hy; go_simp) ?_
            try simp only [Act.put, List.setIfInBounds_toArray, List.set_cons_zero, List.set_cons_succ]
            refine anyH_take 5 82 (.bool false) SD rfl (by kernel_rfl) (by kernel_rfl) (by kernel_rfl) (fun _ _ _ h => h) (by rfl) (by intro y hy; obtain ⟨y0, y1⟩ := hy; go_simp) ?_
            try simp only [Act.put, List.setIfInBounds_toArray, List.set_cons_zero, List.set_cons_succ]
            refine anyH_take 6 83 (.pointer (some ⟨b, 0, none⟩)) SD rfl (by kernel_rfl) (by kernel_rfl) (by kernel_rfl) (fun _ _ _ h => h) (by rfl) (by intro y hy; obtain ⟨y0, y1⟩ := hy; go_simp) ?_
            try simp only [Act.put, List.setIfInBounds_toArray, List.set_cons_zero, List.set_cons_succ]
            refine anyH_one 7 (by kernel_rfl) ?_
            refine wpOp_step rfl (fun Kc hKc => ?_)
            go_simp
            refine (HMP.out _ PZ.out).mono ?_
            rintro e24 w24 ⟨rfl, B24⟩
            have P24 := Lib.hid (PZ.out.next B24.out)
            have X24 := Lib.hid (XZ.out.next B24.out)
            have G24 := Lib.hid (below_kept B24.out GZ.out)
            have SD24 : (fun y => y.heap[w22.heap.size]? = some (.cells R 33 (0, 0)) ∧ y.cell? ⟨w22.heap.size, 0, none⟩ = some (.int .i64 at0)) w24 := ⟨G24.out, hcell _ G24.out⟩
            dsimp only
            refine hKc _ _ ⟨SD24, ?_⟩
            clear hKc Kc SD
            have SD := SD24
            try simp only [Act.put, List.setIfInBounds_toArray, List.set_cons_zero, List.set_cons_succ]
            refine anyH_take 8 85 (.bool false) SD rfl (by kernel_rfl) (by kernel_rfl) (by kernel_rfl) (fun _ _ _ h => h) (by rfl) (by intro y hy; obtain ⟨y0, y1⟩ := hy; go_simp) ?_
            try simp only [Act.put, List.setIfInBounds_toArray, List.set_cons_zero, List.set_cons_succ]
            refine anyH_take 9 86 (.bool false) SD rfl (by kernel_rfl) (by kernel_rfl) (by kernel_rfl) (fun _ _ _ h => h) (by rfl) (by intro y hy; obtain ⟨y0, y1⟩ := hy; go_simp) ?_
            try simp only [Act.put, List.setIfInBounds_toArray, List.set_cons_zero, List.set_cons_succ]
            refine anyH_take 10 87 (.bool false) SD rfl (by kernel_rfl) (by kernel_rfl) (by kernel_rfl) (fun _ _ _ h => h) (by rfl) (by intro y hy; obtain ⟨y0, y1⟩ := hy; go_simp) ?_
            try simp only [Act.put, List.setIfInBounds_toArray, List.set_cons_zero, List.set_cons_succ]
            refine anyH_take 11 88 (.bool false) SD rfl (by kernel_rfl) (by kernel_rfl) (by kernel_rfl) (fun _ _ _ h => h) (by rfl) (by intro y hy; obtain ⟨y0, y1⟩ := hy; go_simp) ?_
            try simp only [Act.put, List.setIfInBounds_toArray, List.set_cons_zero, List.set_cons_succ]
            refine anyH_take 12 89 (.pointer (some ⟨w22.heap.size, 0, none⟩)) SD rfl (by kernel_rfl) (by kernel_rfl) (by kernel_rfl) (fun _ _ _ h => h) (by rfl) (by intro y hy; obtain ⟨y0, y1⟩ := hy; go_simp) ?_
            try simp only [Act.put, List.setIfInBounds_toArray, List.set_cons_zero, List.set_cons_succ]
            refine anyH_take 13 90 (.int .i64 at0) SD rfl (by kernel_rfl) (by kernel_rfl) (by kernel_rfl) (fun _ _ _ h => h) (by rfl) (by intro y hy; obtain ⟨y0, y1⟩ := hy; go_simp) ?_
            try simp only [Act.put, List.setIfInBounds_toArray, List.set_cons_zero, List.set_cons_succ]
            refine anyH_take 14 91 (.bool true) SD rfl (by kernel_rfl) (by kernel_rfl) (by kernel_rfl) (fun _ _ _ h => h) (by rfl) (by intro y hy; obtain ⟨y0, y1⟩ := hy; go_simp) ?_
            try simp only [Act.put, List.setIfInBounds_toArray, List.set_cons_zero, List.set_cons_succ]
            refine anyH_take 15 92 (.bool true) SD rfl (by kernel_rfl) (by kernel_rfl) (by kernel_rfl) (fun _ _ _ h => h) (by rfl) (by intro y hy; obtain ⟨y0, y1⟩ := hy; go_simp) ?_
            try simp only [Act.put, List.setIfInBounds_toArray, List.set_cons_zero, List.set_cons_succ]
            refine anyH_take 16 93 (.pointer (some ⟨bx, 0, none⟩)) SD rfl (by kernel_rfl) (by kernel_rfl) (by kernel_rfl) (fun _ _ _ h => h) (by rfl) (by intro y hy; obtain ⟨y0, y1⟩ := hy; go_simp) ?_
            try simp only [Act.put, List.setIfInBounds_toArray, List.set_cons_zero, List.set_cons_succ]
            refine anyH_take 17 94 (.pointer (some ⟨b, 0, none⟩)) SD rfl (by kernel_rfl) (by kernel_rfl) (by kernel_rfl) (fun _ _ _ h => h) (by rfl) (by intro y hy; obtain ⟨y0, y1⟩ := hy; go_simp) ?_
            try simp only [Act.put, List.setIfInBounds_toArray, List.set_cons_zero, List.set_cons_succ]
            refine anyH_take 19 96 (.agg R) SD rfl (by kernel_rfl) (by kernel_rfl) (by kernel_rfl) (fun _ _ _ h => h) (by rfl) (fun y hy => exec_arr _ _ w22.heap.size 0 _ _ rfl (rng_whole hy.1) Try.underlying33 rfl hsR) ?_
            try simp only [Act.put, List.setIfInBounds_toArray, List.set_cons_zero, List.set_cons_succ]
            refine anyH_one 18 (by kernel_rfl) ?_
            refine wpOp_step rfl (fun Kc hKc => ?_)
            go_simp
            refine (HP0.out _ P24.out).mono ?_
            rintro e25 w25 ⟨rfl, B25⟩
            have P25 := Lib.hid (P24.out.next B25.out)
            have X25 := Lib.hid (X24.out.next B25.out)
            have G25 := Lib.hid (below_kept B25.out G24.out)
            have SD25 : (fun y => y.heap[w22.heap.size]? = some (.cells R 33 (0, 0)) ∧ y.cell? ⟨w22.heap.size, 0, none⟩ = some (.int .i64 at0)) w25 := ⟨G25.out, hcell _ G25.out⟩
            dsimp only
            refine hKc _ _ ⟨SD25, ?_⟩
            clear hKc Kc SD
            have SD := SD25
            try simp only [Act.put, List.setIfInBounds_toArray, List.set_cons_zero, List.set_cons_succ]
            refine anyH_one 20 (by kernel_rfl) ?_
            refine wpOp_step rfl (fun Kc hKc => ?_)
            go_simp
            refine (HLD0.out hpos _ _ X25.out).mono ?_
            rintro e26 w26 ⟨rfl, X26, O26⟩
            have P26 := Lib.hid (P25.out.other O26.out HNB.out X26.out.at_.lo)
            have G26 := Lib.hid ((O26.out.block _ (lt_of_block G25.out) HGX.out).trans G25.out)
            have SD26 : (fun y => y.heap[w22.heap.size]? = some (.cells R 33 (0, 0)) ∧ y.cell? ⟨w22.heap.size, 0, none⟩ = some (.int .i64 at0)) w26 := ⟨G26.out, hcell _ G26.out⟩
            dsimp only
            refine hKc _ _ ⟨SD26, ?_⟩
            clear hKc Kc SD
            have SD := SD26
            try simp only [Act.put, List.setIfInBounds_toArray, List.set_cons_zero, List.set_cons_succ]
            refine anyH_take 21 98 (.bool false) SD rfl (by kernel_rfl) (by kernel_rfl) (by kernel_rfl) (fun _ _ _ h => h) (by rfl) (by intro y hy; obtain ⟨y0, y1⟩ := hy; go_simp) ?_
            try simp only [Act.put, List.setIfInBounds_toArray, List.set_cons_zero, List.set_cons_succ]
            refine anyH_take 22 99 (.bool false) SD rfl (by kernel_rfl) (by kernel_rfl) (by kernel_rfl) (fun _ _ _ h => h) (by rfl) (by intro y hy; obtain ⟨y0, y1⟩ := hy; go_simp) ?_
            try simp only [Act.put, List.setIfInBounds_toArray, List.set_cons_zero, List.set_cons_succ]
            refine anyH_take 23 100 (.bool false) SD rfl (by kernel_rfl) (by kernel_rfl) (by kernel_rfl) (fun _ _ _ h => h) (by rfl) (by intro y hy; obtain ⟨y0, y1⟩ := hy; go_simp) ?_
            try simp only [Act.put, List.setIfInBounds_toArray, List.set_cons_zero, List.set_cons_succ]
            refine wpAnyH_done (by kernel_rfl) ?_ _
            have PQ := P26
            have XQ : Hid (Pp w w26 bx (Tr.ld u' (1 - 1))) := X26
            clear P23 X23 G23 PZ XZ GZ P24 X24 G24 P25 X25 G25 G26 O26
            clear HMP HDI HN0 HLD0 HLN0 hcell SD hrt1 hrt2 hb0
            go_wp2
            go_loopw [13] (fun v13 wr => ∃ i : Nat, 1 ≤ i ∧ i ≤ 9 ∧ v13 = .int .i64 i ∧ Hid (Pp w wr b u') ∧ Hid (Pp w wr bx (Tr.ld u' (i - 1)))) (fun v13 _ => 9 - (intOf v13).toNat)
            case atStart => exact ⟨1, by omega, by omega, rfl, PQ, XQ⟩
            case round =>
              clear PQ XQ
              obtain ⟨i, hi1, hi9, rfl, HP, HX⟩ := hrel
              by_cases hlt : i < 9
              · obtain ⟨i', hi'⟩ : ∃ i', i = i' + 1 := ⟨i - 1, by omega⟩
                have hin : (i : Int) < 9 := by omega
                have hi8 : i' < 8 := by omega
                have hwi : IntKind.i64.wrap ((i : Int) - 1) = (i' : Int) := by rw [IntWalk.i64_in _ ⟨by omega, by omega⟩]; omega
                have hii : i - 1 = i' := by omega
                rw [hii] at HX
                have hlf := HLF.out i hi1 hlt
                have HN := Lib.hid (fun (z : World) (h : Pp w z b u') => pnode_any (i : Int) z h.at_)
                have HPG : Hid (∀ z, Pp w z b u' → Calls Try.prog 25 #[.pointer (some ⟨b, 0, none⟩), .int .i64 (i : Int)] z (PgSay (Tr.pageL u' (i : Int)) z)) := fun z h => ppage_any (i : Int) z h.at_
                have hre : (Tr.pageL u' 0).getD i' Pg.zr = Tr.nodeR u' (i : Int) := by
                  rw [Tr.page_root u' i' hi8, (Tr.node_of (u := u') i hlt).2, hi']
                have HLDI : Hid (Tr.nodeB u' (i : Int) = true → ∀ z, Pp w z bx (Tr.ld u' i') → Calls Try.prog 24 #[.pointer (some ⟨bx, 0, none⟩), .int .i64 (i : Int), PV (Tr.pageL u' (i : Int)), .agg (rfA (Tr.nodeR u' (i : Int)))] z (fun e w' => e = .returned (.int .i64 0) ∧ Hid (Pp w w' bx (Tr.ld u' i)) ∧ Hid (Only bx z w'))) := fun hb z h => (pp_load (i : Int) _ (Tr.page_ok HOKT.out _) _ (HRO.out i) h).mono fun _ _ ⟨h1, h2, h3⟩ => ⟨by rw [h1, (HLA.out i hlt).2 i' hi' hb], by
                    have e : Tr.ld u' i = Tr.loadI (Tr.ld u' i') (i : Int) (Tr.pageL u' (i : Int)) (Tr.nodeR u' (i : Int)) := by rw [hi'] at hb ⊢; exact if_pos hb
                    rw [e]; exact h2, h3⟩
                have HLDN : Hid (Tr.nodeB u' (i : Int) = false → Tr.ld u' i = Tr.ld u' i') := fun hb => by rw [hi'] at hb ⊢; exact if_neg (by rw [hb]; exact Bool.false_ne_true)
                obtain ⟨R2, Z2, eA2, e332, hkR2, _⟩ := rfz (HRO.out i)
                have HRS2 := Lib.hid hkR2.size
                have HR12 := Lib.hid hkR2.one
                have hf2 := hkR2.first
                have hsR2 := row_size Try.sizeRef33 HRS2
                obtain ⟨A0', RA0, eP0, hkP0⟩ := pgk (Tr.page_ok HOKT.out 0)
                obtain ⟨A1, RA1, eP1, hkP1⟩ := pgk (Tr.page_ok HOKT.out (i : Int))
                have HPZ : Hid (∀ z, Pp w z b u' → Calls Try.prog 25 #[.pointer (some ⟨b, 0, none⟩), .int .i64 0] z (PgSay (Tr.pageL u' 0) z)) := fun z h => ppage_any 0 z h.at_
                have hra : RA0 i' = R2 := by
                  have q := hkP0.val i' hi8
                  rw [hre, e332] at q
                  injection q with q
                  exact q.symm
                have HPT : Hid (∀ z, (part 33 A0' (i' * 33)).run Try.prog z = .ok (.agg R2) z) := by have q := hkP0.part i' hi8; rw [hra] at q; exact q
                have hfld : ∀ z, (part 34 A0' 0).run Try.prog z = .ok (.agg A0') z := fun z => by
                  have q := part_refs (Tr.page_ok HOKT.out 0) z
                  have e6 : PV (Tr.pageL u' 0) = .agg (cs (Tr.pageL u' 0)).toArray := rfl
                  rw [e6] at eP0
                  injection eP0 with eP0
                  rw [eP0] at q
                  exact q
                have heqz := rf_eqs (HRO.out i) (HRO.out i)
                rw [decide_eq_true rfl, eA2] at heqz
                unfold RbSay at HN
                rw [e332, hlf] at HN
                rw [hlf] at HLDI HLDN
                unfold PgSay at HPG HPZ
                rw [eP1] at HPG HLDI
                rw [eP0] at HPZ
                rw [eA2] at HLDI
                obtain ⟨ai, hai⟩ : ∃ a, (Tr.nodeR u' (i : Int)).1 = a := ⟨_, rfl⟩
                rw [hai] at HN HLDI HLDN hf2
                have HI8 : Hid (i' < 8) := hi8
                clear HLF HLA HLS HRO HOKT hlf hre hkR2 hkP0 hkP1 eA2 e332 eP0 eP1 hra hai hi8 hlt HP0 HFN hi' hii
                by_cases hpos : ai > 0
                · rw [decide_eq_true (show 0 < ai from hpos)] at HN HLDI
                  have HLD := Lib.hid (HLDI.out rfl)
                  clear HLDI HLDN
                  go_upto_region 28 with (first
                    | (go_at_call 23; with_reducible refine (HN.out _ HP.out).mono ?_; rintro e40 w40 ⟨rfl, B40⟩)
                    | ((with_reducible refine row_store _ _ _ w40.heap.size _ _ _ ?_ ?_ (heap_alloc_new w40 _) hsR2 ?_ HR12.out ?_); (exact rfl); (exact rfl); (rw [HRS2.out, HZS.out]); intro w41 G41 ch41; have B41 := Lib.hid (ch41.below (B40.out.alloc B40.out.size _) B40.out.size); have P41 := Lib.hid (HP.out.next B41.out); have X41 := Lib.hid (HX.out.next B41.out)))
                  have hcl : ∀ y : World, y.heap[w40.heap.size]? = some (.cells R2 33 (0, 0)) → y.cell? ⟨w40.heap.size, 0, none⟩ = some (.int .i64 ai) := fun y hy => by rw [cell_of_row y _ _ _ _ _ hy]; exact hf2
                  have HGX2 : Hid (w40.heap.size ≠ bx) := by have h1 := HX.out.at_.lt; have h2 := B40.out.size; show _ ≠ _; omega
                  refine wp_region_any (by kernel_rfl) ?_
                  change wpAny _ _ _ _ _ _ _ (World.drew _)
                  have PZ : Hid (Pp w w41.drew b u') := ⟨⟨P41.out.at_.box, P41.out.at_.ok, P41.out.at_.tz, P41.out.at_.lo⟩, P41.out.inv, P41.out.old.drew⟩
                  have XZ : Hid (Pp w w41.drew bx (Tr.ld u' i')) := ⟨⟨X41.out.at_.box, X41.out.at_.ok, X41.out.at_.tz, X41.out.at_.lo⟩, X41.out.inv, X41.out.old.drew⟩
                  have GZ : Hid (w41.drew.heap[w40.heap.size]? = some (.cells R2 33 (0, 0))) := G41.out
                  obtain ⟨z, hz9⟩ : ∃ y, y = w41.drew := ⟨_, rfl⟩
                  rw [← hz9] at PZ XZ GZ ⊢
                  clear hz9
                  refine wpAny_of_held (S := fun y => y.heap[w40.heap.size]? = some (.cells R2 33 (0, 0)) ∧ y.cell? ⟨w40.heap.size, 0, none⟩ = some (.int .i64 ai)) _ _ _ _ ?_
                  have SD : (fun y => y.heap[w40.heap.size]? = some (.cells R2 33 (0, 0)) ∧ y.cell? ⟨w40.heap.size, 0, none⟩ = some (.int .i64 ai)) z := ⟨GZ.out, hcl _ GZ.out⟩
                  refine anyH_take 0 111 (.pointer (some ⟨b, 0, none⟩)) SD rfl (by kernel_rfl) (by kernel_rfl) (by kernel_rfl) (fun _ _ _ h => h) (by rfl) (by intro y hy; obtain ⟨y0, y1⟩ := hy; go_simp) ?_
                  try simp only [Act.put, List.setIfInBounds_toArray, List.set_cons_zero, List.set_cons_succ]
                  refine anyH_take 3 114 (.int .i64 (i : Int)) SD rfl (by kernel_rfl) (by kernel_rfl) (by kernel_rfl) (fun _ _ _ h => h) (by rfl) (by intro y hy; obtain ⟨y0, y1⟩ := hy; go_simp) ?_
                  try simp only [Act.put, List.setIfInBounds_toArray, List.set_cons_zero, List.set_cons_succ]
                  refine anyH_take 4 115 (.int .i64 (i' : Int)) SD rfl (by kernel_rfl) (by kernel_rfl) (by kernel_rfl) (fun _ _ _ h => h) (by rfl) (by intro y hy; obtain ⟨y0, y1⟩ := hy; go_simp) ?_
                  try simp only [Act.put, List.setIfInBounds_toArray, List.set_cons_zero, List.set_cons_succ]
                  refine anyH_take 6 117 (.agg R2) SD rfl (by kernel_rfl) (by kernel_rfl) (by kernel_rfl) (fun _ _ _ h => h) (by rfl) (fun y hy => exec_arr _ _ w40.heap.size 0 _ _ rfl (rng_whole hy.1) Try.underlying33 rfl hsR2) ?_
                  try simp only [Act.put, List.setIfInBounds_toArray, List.set_cons_zero, List.set_cons_succ]
                  refine anyH_one 1 (by kernel_rfl) ?_
                  refine wpOp_step rfl (fun Kc hKc => ?_)
                  go_simp
                  refine (HPZ.out _ PZ.out).mono ?_
                  rintro e42 w42 ⟨rfl, B42⟩
                  have P42 := Lib.hid (PZ.out.next B42.out)
                  have X42 := Lib.hid (XZ.out.next B42.out)
                  have G42 := Lib.hid (below_kept B42.out GZ.out)
                  have SD42 : (fun y => y.heap[w40.heap.size]? = some (.cells R2 33 (0, 0)) ∧ y.cell? ⟨w40.heap.size, 0, none⟩ = some (.int .i64 ai)) w42 := ⟨G42.out, hcl _ G42.out⟩
                  dsimp only
                  refine hKc _ _ ⟨SD42, ?_⟩
                  clear hKc Kc SD
                  have SD := SD42
                  try simp only [Act.put, List.setIfInBounds_toArray, List.set_cons_zero, List.set_cons_succ]
                  refine anyH_take 2 113 (.agg A0') SD rfl (by kernel_rfl) (by kernel_rfl) (by kernel_rfl) (fun _ _ _ h => h) (by rfl) (fun y hy => exec_field1 _ _ _ _ _ A0' _ _ rfl Try.underlying36 Try.fieldsPage hfld) ?_
                  try simp only [Act.put, List.setIfInBounds_toArray, List.set_cons_zero, List.set_cons_succ]
                  refine anyH_take 5 116 (.agg R2) SD rfl (by kernel_rfl) (by kernel_rfl) (by kernel_rfl) (fun _ _ _ h => h) (by rfl) (fun y hy => exec_index _ _ _ _ A0' i' 8 33 _ rfl rfl Try.underlying34 HI8.out Try.sizeRef33 HPT.out) ?_
                  try simp only [Act.put, List.setIfInBounds_toArray, List.set_cons_zero, List.set_cons_succ]
                  refine anyH_take 7 118 (.bool false) SD rfl (by kernel_rfl) (by kernel_rfl) (by kernel_rfl) (fun _ _ _ h => h) (by rfl) (by intro y hy; obtain ⟨y0, y1⟩ := hy; go_simp) ?_
                  try simp only [Act.put, List.setIfInBounds_toArray, List.set_cons_zero, List.set_cons_succ]
                  refine anyH_take 8 119 (.bool false) SD rfl (by kernel_rfl) (by kernel_rfl) (by kernel_rfl) (fun _ _ _ h => h) (by rfl) (by intro y hy; obtain ⟨y0, y1⟩ := hy; go_simp) ?_
                  try simp only [Act.put, List.setIfInBounds_toArray, List.set_cons_zero, List.set_cons_succ]
                  refine anyH_take 9 120 (.bool true) SD rfl (by kernel_rfl) (by kernel_rfl) (by kernel_rfl) (fun _ _ _ h => h) (by rfl) (by intro y hy; obtain ⟨y0, y1⟩ := hy; go_simp) ?_
                  try simp only [Act.put, List.setIfInBounds_toArray, List.set_cons_zero, List.set_cons_succ]
                  refine anyH_take 10 121 (.pointer (some ⟨w40.heap.size, 0, none⟩)) SD rfl (by kernel_rfl) (by kernel_rfl) (by kernel_rfl) (fun _ _ _ h => h) (by rfl) (by intro y hy; obtain ⟨y0, y1⟩ := hy; go_simp) ?_
                  try simp only [Act.put, List.setIfInBounds_toArray, List.set_cons_zero, List.set_cons_succ]
                  refine anyH_take 11 122 (.int .i64 ai) SD rfl (by kernel_rfl) (by kernel_rfl) (by kernel_rfl) (fun _ _ _ h => h) (by rfl) (by intro y hy; obtain ⟨y0, y1⟩ := hy; go_simp) ?_
                  try simp only [Act.put, List.setIfInBounds_toArray, List.set_cons_zero, List.set_cons_succ]
                  refine anyH_take 12 123 (.bool true) SD rfl (by kernel_rfl) (by kernel_rfl) (by kernel_rfl) (fun _ _ _ h => h) (by rfl) (by intro y hy; obtain ⟨y0, y1⟩ := hy; go_simp) ?_
                  try simp only [Act.put, List.setIfInBounds_toArray, List.set_cons_zero, List.set_cons_succ]
                  refine anyH_take 13 124 (.bool false) SD rfl (by kernel_rfl) (by kernel_rfl) (by kernel_rfl) (fun _ _ _ h => h) (by rfl) (by intro y hy; obtain ⟨y0, y1⟩ := hy; go_simp) ?_
                  try simp only [Act.put, List.setIfInBounds_toArray, List.set_cons_zero, List.set_cons_succ]
                  refine anyH_take 14 125 (.bool false) SD rfl (by kernel_rfl) (by kernel_rfl) (by kernel_rfl) (fun _ _ _ h => h) (by rfl) (by intro y hy; obtain ⟨y0, y1⟩ := hy; go_simp) ?_
                  try simp only [Act.put, List.setIfInBounds_toArray, List.set_cons_zero, List.set_cons_succ]
                  refine anyH_take 15 126 (.bool false) SD rfl (by kernel_rfl) (by kernel_rfl) (by kernel_rfl) (fun _ _ _ h => h) (by rfl) (by intro y hy; obtain ⟨y0, y1⟩ := hy; go_simp) ?_
                  try simp only [Act.put, List.setIfInBounds_toArray, List.set_cons_zero, List.set_cons_succ]
                  refine anyH_take 16 127 (.bool true) SD rfl (by kernel_rfl) (by kernel_rfl) (by kernel_rfl) (fun _ _ _ h => h) (by rfl) (by intro y hy; obtain ⟨y0, y1⟩ := hy; go_simp) ?_
                  try simp only [Act.put, List.setIfInBounds_toArray, List.set_cons_zero, List.set_cons_succ]
                  refine anyH_take 17 128 (.bool true) SD rfl (by kernel_rfl) (by kernel_rfl) (by kernel_rfl) (fun _ _ _ h => h) (by rfl) (by intro y hy; obtain ⟨y0, y1⟩ := hy; go_simp) ?_
                  try simp only [Act.put, List.setIfInBounds_toArray, List.set_cons_zero, List.set_cons_succ]
                  refine anyH_take 18 129 (.pointer (some ⟨bx, 0, none⟩)) SD rfl (by kernel_rfl) (by kernel_rfl) (by kernel_rfl) (fun _ _ _ h => h) (by rfl) (by intro y hy; obtain ⟨y0, y1⟩ := hy; go_simp) ?_
                  try simp only [Act.put, List.setIfInBounds_toArray, List.set_cons_zero, List.set_cons_succ]
                  refine anyH_take 19 130 (.int .i64 (i : Int)) SD rfl (by kernel_rfl) (by kernel_rfl) (by kernel_rfl) (fun _ _ _ h => h) (by rfl) (by intro y hy; obtain ⟨y0, y1⟩ := hy; go_simp) ?_
                  try simp only [Act.put, List.setIfInBounds_toArray, List.set_cons_zero, List.set_cons_succ]
                  refine anyH_take 20 131 (.pointer (some ⟨b, 0, none⟩)) SD rfl (by kernel_rfl) (by kernel_rfl) (by kernel_rfl) (fun _ _ _ h => h) (by rfl) (by intro y hy; obtain ⟨y0, y1⟩ := hy; go_simp) ?_
                  try simp only [Act.put, List.setIfInBounds_toArray, List.set_cons_zero, List.set_cons_succ]
                  refine anyH_take 21 132 (.int .i64 (i : Int)) SD rfl (by kernel_rfl) (by kernel_rfl) (by kernel_rfl) (fun _ _ _ h => h) (by rfl) (by intro y hy; obtain ⟨y0, y1⟩ := hy; go_simp) ?_
                  try simp only [Act.put, List.setIfInBounds_toArray, List.set_cons_zero, List.set_cons_succ]
                  refine anyH_take 23 134 (.agg R2) SD rfl (by kernel_rfl) (by kernel_rfl) (by kernel_rfl) (fun _ _ _ h => h) (by rfl) (fun y hy => exec_arr _ _ w40.heap.size 0 _ _ rfl (rng_whole hy.1) Try.underlying33 rfl hsR2) ?_
                  try simp only [Act.put, List.setIfInBounds_toArray, List.set_cons_zero, List.set_cons_succ]
                  refine anyH_one 22 (by kernel_rfl) ?_
                  refine wpOp_step rfl (fun Kc hKc => ?_)
                  go_simp
                  refine (HPG.out _ P42.out).mono ?_
                  rintro e43 w43 ⟨rfl, B43⟩
                  have P43 := Lib.hid (P42.out.next B43.out)
                  have X43 := Lib.hid (X42.out.next B43.out)
                  have G43 := Lib.hid (below_kept B43.out G42.out)
                  have SD43 : (fun y => y.heap[w40.heap.size]? = some (.cells R2 33 (0, 0)) ∧ y.cell? ⟨w40.heap.size, 0, none⟩ = some (.int .i64 ai)) w43 := ⟨G43.out, hcl _ G43.out⟩
                  dsimp only
                  refine hKc _ _ ⟨SD43, ?_⟩
                  clear hKc Kc SD
                  have SD := SD43
                  try simp only [Act.put, List.setIfInBounds_toArray, List.set_cons_zero, List.set_cons_succ]
                  refine anyH_one 24 (by kernel_rfl) ?_
                  refine wpOp_step rfl (fun Kc hKc => ?_)
                  go_simp
                  refine (HLD.out _ X43.out).mono ?_
                  rintro e44 w44 ⟨rfl, X44, O44⟩
                  have P44 := Lib.hid (P43.out.other O44.out HNB.out X44.out.at_.lo)
                  have G44 := Lib.hid ((O44.out.block _ (lt_of_block G43.out) HGX2.out).trans G43.out)
                  have SD44 : (fun y => y.heap[w40.heap.size]? = some (.cells R2 33 (0, 0)) ∧ y.cell? ⟨w40.heap.size, 0, none⟩ = some (.int .i64 ai)) w44 := ⟨G44.out, hcl _ G44.out⟩
                  dsimp only
                  refine hKc _ _ ⟨SD44, ?_⟩
                  clear hKc Kc SD
                  have SD := SD44
                  try simp only [Act.put, List.setIfInBounds_toArray, List.set_cons_zero, List.set_cons_succ]
                  refine anyH_take 25 136 (.bool false) SD rfl (by kernel_rfl) (by kernel_rfl) (by kernel_rfl) (fun _ _ _ h => h) (by rfl) (by intro y hy; obtain ⟨y0, y1⟩ := hy; go_simp) ?_
                  try simp only [Act.put, List.setIfInBounds_toArray, List.set_cons_zero, List.set_cons_succ]
                  refine anyH_take 26 137 (.bool false) SD rfl (by kernel_rfl) (by kernel_rfl) (by kernel_rfl) (fun _ _ _ h => h) (by rfl) (by intro y hy; obtain ⟨y0, y1⟩ := hy; go_simp) ?_
                  try simp only [Act.put, List.setIfInBounds_toArray, List.set_cons_zero, List.set_cons_succ]
                  refine anyH_take 27 138 (.bool false) SD rfl (by kernel_rfl) (by kernel_rfl) (by kernel_rfl) (fun _ _ _ h => h) (by rfl) (by intro y hy; obtain ⟨y0, y1⟩ := hy; go_simp) ?_
                  try simp only [Act.put, List.setIfInBounds_toArray, List.set_cons_zero, List.set_cons_succ]
                  refine wpAnyH_done (by kernel_rfl) ?_ _
                  go_wp2
                  exact ⟨⟨i + 1, by omega, by omega, by go_num, P44, X44⟩, by simp [intOf]; omega⟩
                · rw [decide_eq_false (show ¬ 0 < ai from hpos)] at HN HLDN
                  have HLE := HLDN.out rfl
                  clear HLDI HLDN
                  go_upto_region 28 with (first
                    | (go_at_call 23; with_reducible refine (HN.out _ HP.out).mono ?_; rintro e40 w40 ⟨rfl, B40⟩)
                    | ((with_reducible refine row_store _ _ _ w40.heap.size _ _ _ ?_ ?_ (heap_alloc_new w40 _) hsR2 ?_ HR12.out ?_); (exact rfl); (exact rfl); (rw [HRS2.out, HZS.out]); intro w41 G41 ch41; have B41 := Lib.hid (ch41.below (B40.out.alloc B40.out.size _) B40.out.size); have P41 := Lib.hid (HP.out.next B41.out); have X41 := Lib.hid (HX.out.next B41.out)))
                  have hcl : ∀ y : World, y.heap[w40.heap.size]? = some (.cells R2 33 (0, 0)) → y.cell? ⟨w40.heap.size, 0, none⟩ = some (.int .i64 ai) := fun y hy => by rw [cell_of_row y _ _ _ _ _ hy]; exact hf2
                  have HGX2 : Hid (w40.heap.size ≠ bx) := by have h1 := HX.out.at_.lt; have h2 := B40.out.size; show _ ≠ _; omega
                  refine wp_region_any (by kernel_rfl) ?_
                  change wpAny _ _ _ _ _ _ _ (World.drew _)
                  have PZ : Hid (Pp w w41.drew b u') := ⟨⟨P41.out.at_.box, P41.out.at_.ok, P41.out.at_.tz, P41.out.at_.lo⟩, P41.out.inv, P41.out.old.drew⟩
                  have XZ : Hid (Pp w w41.drew bx (Tr.ld u' i')) := ⟨⟨X41.out.at_.box, X41.out.at_.ok, X41.out.at_.tz, X41.out.at_.lo⟩, X41.out.inv, X41.out.old.drew⟩
                  have GZ : Hid (w41.drew.heap[w40.heap.size]? = some (.cells R2 33 (0, 0))) := G41.out
                  obtain ⟨z, hz9⟩ : ∃ y, y = w41.drew := ⟨_, rfl⟩
                  rw [← hz9] at PZ XZ GZ ⊢
                  clear hz9
                  refine wpAny_of_held (S := fun y => y.heap[w40.heap.size]? = some (.cells R2 33 (0, 0)) ∧ y.cell? ⟨w40.heap.size, 0, none⟩ = some (.int .i64 ai)) _ _ _ _ ?_
                  have SD : (fun y => y.heap[w40.heap.size]? = some (.cells R2 33 (0, 0)) ∧ y.cell? ⟨w40.heap.size, 0, none⟩ = some (.int .i64 ai)) z := ⟨GZ.out, hcl _ GZ.out⟩
                  refine anyH_take 0 111 (.pointer (some ⟨b, 0, none⟩)) SD rfl (by kernel_rfl) (by kernel_rfl) (by kernel_rfl) (fun _ _ _ h => h) (by rfl) (by intro y hy; obtain ⟨y0, y1⟩ := hy; go_simp) ?_
                  try simp only [Act.put, List.setIfInBounds_toArray, List.set_cons_zero, List.set_cons_succ]
                  refine anyH_take 3 114 (.int .i64 (i : Int)) SD rfl (by kernel_rfl) (by kernel_rfl) (by kernel_rfl) (fun _ _ _ h => h) (by rfl) (by intro y hy; obtain ⟨y0, y1⟩ := hy; go_simp) ?_
                  try simp only [Act.put, List.setIfInBounds_toArray, List.set_cons_zero, List.set_cons_succ]
                  refine anyH_take 4 115 (.int .i64 (i' : Int)) SD rfl (by kernel_rfl) (by kernel_rfl) (by kernel_rfl) (fun _ _ _ h => h) (by rfl) (by intro y hy; obtain ⟨y0, y1⟩ := hy; go_simp) ?_
                  try simp only [Act.put, List.setIfInBounds_toArray, List.set_cons_zero, List.set_cons_succ]
                  refine anyH_take 6 117 (.agg R2) SD rfl (by kernel_rfl) (by kernel_rfl) (by kernel_rfl) (fun _ _ _ h => h) (by rfl) (fun y hy => exec_arr _ _ w40.heap.size 0 _ _ rfl (rng_whole hy.1) Try.underlying33 rfl hsR2) ?_
                  try simp only [Act.put, List.setIfInBounds_toArray, List.set_cons_zero, List.set_cons_succ]
                  refine anyH_one 1 (by kernel_rfl) ?_
                  refine wpOp_step rfl (fun Kc hKc => ?_)
                  go_simp
                  refine (HPZ.out _ PZ.out).mono ?_
                  rintro e42 w42 ⟨rfl, B42⟩
                  have P42 := Lib.hid (PZ.out.next B42.out)
                  have X42 := Lib.hid (XZ.out.next B42.out)
                  have G42 := Lib.hid (below_kept B42.out GZ.out)
                  have SD42 : (fun y => y.heap[w40.heap.size]? = some (.cells R2 33 (0, 0)) ∧ y.cell? ⟨w40.heap.size, 0, none⟩ = some (.int .i64 ai)) w42 := ⟨G42.out, hcl _ G42.out⟩
                  dsimp only
                  refine hKc _ _ ⟨SD42, ?_⟩
                  clear hKc Kc SD
                  have SD := SD42
                  try simp only [Act.put, List.setIfInBounds_toArray, List.set_cons_zero, List.set_cons_succ]
                  refine anyH_take 2 113 (.agg A0') SD rfl (by kernel_rfl) (by kernel_rfl) (by kernel_rfl) (fun _ _ _ h => h) (by rfl) (fun y hy => exec_field1 _ _ _ _ _ A0' _ _ rfl Try.underlying36 Try.fieldsPage hfld) ?_
                  try simp only [Act.put, List.setIfInBounds_toArray, List.set_cons_zero, List.set_cons_succ]
                  refine anyH_take 5 116 (.agg R2) SD rfl (by kernel_rfl) (by kernel_rfl) (by kernel_rfl) (fun _ _ _ h => h) (by rfl) (fun y hy => exec_index _ _ _ _ A0' i' 8 33 _ rfl rfl Try.underlying34 HI8.out Try.sizeRef33 HPT.out) ?_
                  try simp only [Act.put, List.setIfInBounds_toArray, List.set_cons_zero, List.set_cons_succ]
                  refine anyH_take 7 118 (.bool false) SD rfl (by kernel_rfl) (by kernel_rfl) (by kernel_rfl) (fun _ _ _ h => h) (by rfl) (by intro y hy; obtain ⟨y0, y1⟩ := hy; go_simp) ?_
                  try simp only [Act.put, List.setIfInBounds_toArray, List.set_cons_zero, List.set_cons_succ]
                  refine anyH_take 8 119 (.bool false) SD rfl (by kernel_rfl) (by kernel_rfl) (by kernel_rfl) (fun _ _ _ h => h) (by rfl) (by intro y hy; obtain ⟨y0, y1⟩ := hy; go_simp) ?_
                  try simp only [Act.put, List.setIfInBounds_toArray, List.set_cons_zero, List.set_cons_succ]
                  refine anyH_take 9 120 (.bool false) SD rfl (by kernel_rfl) (by kernel_rfl) (by kernel_rfl) (fun _ _ _ h => h) (by rfl) (by intro y hy; obtain ⟨y0, y1⟩ := hy; go_simp) ?_
                  try simp only [Act.put, List.setIfInBounds_toArray, List.set_cons_zero, List.set_cons_succ]
                  refine anyH_take 10 121 (.pointer (some ⟨w40.heap.size, 0, none⟩)) SD rfl (by kernel_rfl) (by kernel_rfl) (by kernel_rfl) (fun _ _ _ h => h) (by rfl) (by intro y hy; obtain ⟨y0, y1⟩ := hy; go_simp) ?_
                  try simp only [Act.put, List.setIfInBounds_toArray, List.set_cons_zero, List.set_cons_succ]
                  refine anyH_take 11 122 (.int .i64 ai) SD rfl (by kernel_rfl) (by kernel_rfl) (by kernel_rfl) (fun _ _ _ h => h) (by rfl) (by intro y hy; obtain ⟨y0, y1⟩ := hy; go_simp) ?_
                  try simp only [Act.put, List.setIfInBounds_toArray, List.set_cons_zero, List.set_cons_succ]
                  refine anyH_take 12 123 (.bool false) SD rfl (by kernel_rfl) (by kernel_rfl) (by kernel_rfl) (fun _ _ _ h => h) (by rfl) (by intro y hy; obtain ⟨y0, y1⟩ := hy; go_simp) ?_
                  try simp only [Act.put, List.setIfInBounds_toArray, List.set_cons_zero, List.set_cons_succ]
                  refine anyH_take 13 124 (.bool false) SD rfl (by kernel_rfl) (by kernel_rfl) (by kernel_rfl) (fun _ _ _ h => h) (by rfl) (by intro y hy; obtain ⟨y0, y1⟩ := hy; go_simp) ?_
                  try simp only [Act.put, List.setIfInBounds_toArray, List.set_cons_zero, List.set_cons_succ]
                  refine anyH_take 14 125 (.bool false) SD rfl (by kernel_rfl) (by kernel_rfl) (by kernel_rfl) (fun _ _ _ h => h) (by rfl) (by intro y hy; obtain ⟨y0, y1⟩ := hy; go_simp) ?_
                  try simp only [Act.put, List.setIfInBounds_toArray, List.set_cons_zero, List.set_cons_succ]
                  refine anyH_take 15 126 (.bool false) SD rfl (by kernel_rfl) (by kernel_rfl) (by kernel_rfl) (fun _ _ _ h => h) (by rfl) (by intro y hy; obtain ⟨y0, y1⟩ := hy; go_simp) ?_
                  try simp only [Act.put, List.setIfInBounds_toArray, List.set_cons_zero, List.set_cons_succ]
                  refine anyH_take 16 127 (.bool false) SD rfl (by kernel_rfl) (by kernel_rfl) (by kernel_rfl) (fun _ _ _ h => h) (by rfl) (by intro y hy; obtain ⟨y0, y1⟩ := hy; go_simp) ?_
                  try simp only [Act.put, List.setIfInBounds_toArray, List.set_cons_zero, List.set_cons_succ]
                  refine anyH_take 17 128 (.bool false) SD rfl (by kernel_rfl) (by kernel_rfl) (by kernel_rfl) (fun _ _ _ h => h) (by rfl) (by intro y hy; obtain ⟨y0, y1⟩ := hy; go_simp) ?_
                  try simp only [Act.put, List.setIfInBounds_toArray, List.set_cons_zero, List.set_cons_succ]
                  refine anyH_skip 18 129 SD rfl (by kernel_rfl) (by kernel_rfl) (by kernel_rfl) (fun _ _ _ h => h) (by rfl) ?_
                  try simp only [Act.put, List.setIfInBounds_toArray, List.set_cons_zero, List.set_cons_succ]
                  refine anyH_skip 19 130 SD rfl (by kernel_rfl) (by kernel_rfl) (by kernel_rfl) (fun _ _ _ h => h) (by rfl) ?_
                  try simp only [Act.put, List.setIfInBounds_toArray, List.set_cons_zero, List.set_cons_succ]
                  refine anyH_skip 20 131 SD rfl (by kernel_rfl) (by kernel_rfl) (by kernel_rfl) (fun _ _ _ h => h) (by rfl) ?_
                  try simp only [Act.put, List.setIfInBounds_toArray, List.set_cons_zero, List.set_cons_succ]
                  refine anyH_skip 21 132 SD rfl (by kernel_rfl) (by kernel_rfl) (by kernel_rfl) (fun _ _ _ h => h) (by rfl) ?_
                  try simp only [Act.put, List.setIfInBounds_toArray, List.set_cons_zero, List.set_cons_succ]
                  refine anyH_skip 22 133 SD rfl (by kernel_rfl) (by kernel_rfl) (by kernel_rfl) (fun _ _ _ h => h) (by rfl) ?_
                  try simp only [Act.put, List.setIfInBounds_toArray, List.set_cons_zero, List.set_cons_succ]
                  refine anyH_skip 23 134 SD rfl (by kernel_rfl) (by kernel_rfl) (by kernel_rfl) (fun _ _ _ h => h) (by rfl) ?_
                  try simp only [Act.put, List.setIfInBounds_toArray, List.set_cons_zero, List.set_cons_succ]
                  refine anyH_skip 24 135 SD rfl (by kernel_rfl) (by kernel_rfl) (by kernel_rfl) (fun _ _ _ h => h) (by rfl) ?_
                  try simp only [Act.put, List.setIfInBounds_toArray, List.set_cons_zero, List.set_cons_succ]
                  refine anyH_skip 25 136 SD rfl (by kernel_rfl) (by kernel_rfl) (by kernel_rfl) (fun _ _ _ h => h) (by rfl) ?_
                  try simp only [Act.put, List.setIfInBounds_toArray, List.set_cons_zero, List.set_cons_succ]
                  refine anyH_take 26 137 (.bool false) SD rfl (by kernel_rfl) (by kernel_rfl) (by kernel_rfl) (fun _ _ _ h => h) (by rfl) (by intro y hy; obtain ⟨y0, y1⟩ := hy; go_simp) ?_
                  try simp only [Act.put, List.setIfInBounds_toArray, List.set_cons_zero, List.set_cons_succ]
                  refine anyH_take 27 138 (.bool false) SD rfl (by kernel_rfl) (by kernel_rfl) (by kernel_rfl) (fun _ _ _ h => h) (by rfl) (by intro y hy; obtain ⟨y0, y1⟩ := hy; go_simp) ?_
                  try simp only [Act.put, List.setIfInBounds_toArray, List.set_cons_zero, List.set_cons_succ]
                  refine wpAnyH_done (by kernel_rfl) ?_ _
                  go_wp2
                  exact ⟨⟨i + 1, by omega, by omega, by go_num, P42, by rw [Nat.add_sub_cancel, HLE]; exact X42⟩, by simp [intOf]; omega⟩
              · have E : i = 9 := by omega
                subst E
                obtain ⟨s1, s2, s3⟩ := HLS.out
                have HX8 : Hid (Pp w wr bx (Tr.ld u' 8)) := HX
                have HRX : Hid (∀ z, Pp w z bx (Tr.ld u' 8) → Calls Try.prog 14 #[.pointer (some ⟨bx, 0, none⟩)] z (ToSay (Tr.refs u') z)) := fun z h => by have q := prefs_any z h.at_; rw [s1] at q; exact q
                have HRT : Hid (∀ z, Pp w z b u' → Calls Try.prog 14 #[.pointer (some ⟨b, 0, none⟩)] z (ToSay (Tr.refs u') z)) := fun z h => prefs_any z h.at_
                have HMX : Hid (∀ z, Pp w z bx (Tr.ld u' 8) → Calls Try.prog 18 #[.pointer (some ⟨bx, 0, none⟩)] z fun e w' => e = .returned (.int .i64 (Tr.mapped u' : Int)) ∧ Hid (Below z.heap.size z w')) := fun z h => by have q := pmapped_any z h.at_; rw [s2] at q; exact q
                have HMT : Hid (∀ z, Pp w z b u' → Calls Try.prog 18 #[.pointer (some ⟨b, 0, none⟩)] z fun e w' => e = .returned (.int .i64 (Tr.mapped u' : Int)) ∧ Hid (Below z.heap.size z w')) := fun z h => pmapped_any z h.at_
                have HDX : Hid (∀ z, Pp w z bx (Tr.ld u' 8) → Calls Try.prog 20 #[.pointer (some ⟨bx, 0, none⟩)] z (fun e w' => ∃ p c, e = .returned (.slice p 0 c) ∧ Hid (Below z.heap.size z w'))) := fun z h => (pdirty_any z h.at_).mono fun _ _ ⟨v, h1, h2, h3⟩ => by
                  rw [s3, HFN.out] at h2
                  obtain ⟨p, c, e⟩ := h2.out.len
                  exact ⟨p, c, by rw [h1, e]; rfl, h3⟩
                have HSR : Hid (∀ z B C u v, Fl B 33 33 z u ((Tr.refs u').map rfA) → Fl C 33 33 z v ((Tr.refs u').map rfA) → Calls Try.prog 26 #[u, v] z (BoSay true z)) := fun z B C u v hu hv => by
                  have q := samerefs_any (refs_ok HOKT.out) (refs_ok HOKT.out) (by have := refs_le u'; omega) z hu hv
                  rw [decide_eq_true rfl] at q
                  exact q
                unfold ToSay at HRX HRT
                unfold BoSay at HSR
                generalize Tr.mapped u' = mq at *
                have hself : ((mq : Int) == (mq : Int)) = true := by simp
                clear hlt HX HLF HLA HLS HRO HOKT HP0 s1 s2 s3
                go_wp2_with (first
                  | (go_at_call 14; with_reducible refine (HRX.out _ HX8.out).mono ?_; rintro e30 w30 ⟨v30, rfl, F30, B30⟩; have P30 := Lib.hid (HP.out.next B30.out); have X30 := Lib.hid (HX8.out.next B30.out))
                  | (go_at_call 14; with_reducible refine (HRT.out _ P30.out).mono ?_; rintro e31 w31 ⟨v31, rfl, F31, B31⟩; have P31 := Lib.hid (P30.out.next B31.out); have X31 := Lib.hid (X30.out.next B31.out); have F30' := Lib.hid (F30.out.old B31.out))
                  | (go_at_call 26; with_reducible refine (HSR.out _ _ _ _ _ F30'.out F31.out).mono ?_; rintro e32 w32 ⟨rfl, B32⟩; have P32 := Lib.hid (P31.out.next B32.out); have X32 := Lib.hid (X31.out.next B32.out))
                  | (go_at_call 18; with_reducible refine (HMX.out _ X32.out).mono ?_; rintro e33 w33 ⟨rfl, B33⟩; have P33 := Lib.hid (P32.out.next B33.out); have X33 := Lib.hid (X32.out.next B33.out))
                  | (go_at_call 18; with_reducible refine (HMT.out _ P33.out).mono ?_; rintro e34 w34 ⟨rfl, B34⟩; have P34 := Lib.hid (P33.out.next B34.out); have X34 := Lib.hid (X33.out.next B34.out))
                  | (go_at_call 20; with_reducible refine (HDX.out _ X34.out).mono ?_; rintro e35 w35 ⟨p35, c35, rfl, B35⟩; have P35 := Lib.hid (P34.out.next B35.out))
                  | (go_at_call 9; with_reducible refine (HW.out _).mono ?_; rintro e36 w36 ⟨rfl, B36⟩; have P36 := Lib.hid (P35.out.next B36.out)))
                go_ret
                exact ⟨rfl, Lib.hid P36.out.old⟩
          · rw [show ((0 : Nat) : Int) = 0 from rfl] at HMP
            refine wp_region_any (by kernel_rfl) ?_
            change wpAny _ _ _ _ _ _ _ (World.drew _)
            have PZ : Hid (Pp w w23.drew b u') := ⟨⟨P23.out.at_.box, P23.out.at_.ok, P23.out.at_.tz, P23.out.at_.lo⟩, P23.out.inv, P23.out.old.drew⟩
            have XZ : Hid (Pp w w23.drew bx Tr.new) := ⟨⟨X23.out.at_.box, X23.out.at_.ok, X23.out.at_.tz, X23.out.at_.lo⟩, X23.out.inv, X23.out.old.drew⟩
            have GZ : Hid (w23.drew.heap[w22.heap.size]? = some (.cells R 33 (0, 0))) := G23.out
            obtain ⟨z, hz9⟩ : ∃ y, y = w23.drew := ⟨_, rfl⟩
            rw [← hz9] at PZ XZ GZ ⊢
            clear hz9
            refine wpAny_of_held (S := fun y => y.heap[w22.heap.size]? = some (.cells R 33 (0, 0)) ∧ y.cell? ⟨w22.heap.size, 0, none⟩ = some (.int .i64 0)) _ _ _ _ ?_
            have SD : (fun y => y.heap[w22.heap.size]? = some (.cells R 33 (0, 0)) ∧ y.cell? ⟨w22.heap.size, 0, none⟩ = some (.int .i64 0)) z := ⟨GZ.out, hcell _ GZ.out⟩
            refine anyH_take 0 77 (.bool true) SD rfl (by kernel_rfl) (by kernel_rfl) (by kernel_rfl) (fun _ _ _ h => h) (by rfl) (by intro y hy; obtain ⟨y0, y1⟩ := hy; go_simp) ?_
            try simp only [Act.put, List.setIfInBounds_toArray, List.set_cons_zero, List.set_cons_succ]
            refine anyH_take 1 78 (.bool false) SD rfl (by kernel_rfl) (by kernel_rfl) (by kernel_rfl) (fun _ _ _ h => h) (by rfl) (by intro y hy; obtain ⟨y0, y1⟩ := hy; go_simp) ?_
            try simp only [Act.put, List.setIfInBounds_toArray, List.set_cons_zero, List.set_cons_succ]
            refine anyH_take 2 79 (.bool false) SD rfl (by kernel_rfl) (by kernel_rfl) (by kernel_rfl) (fun _ _ _ h => h) (by rfl) (by intro y hy; obtain ⟨y0, y1⟩ := hy; go_simp) ?_
            try simp only [Act.put, List.setIfInBounds_toArray, List.set_cons_zero, List.set_cons_succ]
            refine anyH_take 3 80 (.pointer (some ⟨w22.heap.size, 0, none⟩)) SD rfl (by kernel_rfl) (by kernel_rfl) (by kernel_rfl) (fun _ _ _ h => h) (by rfl) (by intro y hy; obtain ⟨y0, y1⟩ := hy; go_simp) ?_
            try simp only [Act.put, List.setIfInBounds_toArray, List.set_cons_zero, List.set_cons_succ]
            refine anyH_take 4 81 (.int .i64 0) SD rfl (by kernel_rfl) (by kernel_rfl) (by kernel_rfl) (fun _ _ _ h => h) (by rfl) (by intro y hy; obtain ⟨y0, y1⟩ := hy; go_simp) ?_
            try simp only [Act.put, List.setIfInBounds_toArray, List.set_cons_zero, List.set_cons_succ]
            refine anyH_take 5 82 (.bool true) SD rfl (by kernel_rfl) (by kernel_rfl) (by kernel_rfl) (fun _ _ _ h => h) (by rfl) (by intro y hy; obtain ⟨y0, y1⟩ := hy; go_simp) ?_
            try simp only [Act.put, List.setIfInBounds_toArray, List.set_cons_zero, List.set_cons_succ]
            refine anyH_take 6 83 (.pointer (some ⟨b, 0, none⟩)) SD rfl (by kernel_rfl) (by kernel_rfl) (by kernel_rfl) (fun _ _ _ h => h) (by rfl) (by intro y hy; obtain ⟨y0, y1⟩ := hy; go_simp) ?_
            try simp only [Act.put, List.setIfInBounds_toArray, List.set_cons_zero, List.set_cons_succ]
            refine anyH_one 7 (by kernel_rfl) ?_
            refine wpOp_step rfl (fun Kc hKc => ?_)
            go_simp
            refine (HMP.out _ PZ.out).mono ?_
            rintro e24 w24 ⟨rfl, B24⟩
            have P24 := Lib.hid (PZ.out.next B24.out)
            have X24 := Lib.hid (XZ.out.next B24.out)
            have G24 := Lib.hid (below_kept B24.out GZ.out)
            have SD24 : (fun y => y.heap[w22.heap.size]? = some (.cells R 33 (0, 0)) ∧ y.cell? ⟨w22.heap.size, 0, none⟩ = some (.int .i64 0)) w24 := ⟨G24.out, hcell _ G24.out⟩
            dsimp only
            refine hKc _ _ ⟨SD24, ?_⟩
            clear hKc Kc SD
            have SD := SD24
            try simp only [Act.put, List.setIfInBounds_toArray, List.set_cons_zero, List.set_cons_succ]
            refine anyH_take 8 85 (.bool true) SD rfl (by kernel_rfl) (by kernel_rfl) (by kernel_rfl) (fun _ _ _ h => h) (by rfl) (by intro y hy; obtain ⟨y0, y1⟩ := hy; go_simp) ?_
            try simp only [Act.put, List.setIfInBounds_toArray, List.set_cons_zero, List.set_cons_succ]
            refine anyH_take 9 86 (.bool false) SD rfl (by kernel_rfl) (by kernel_rfl) (by kernel_rfl) (fun _ _ _ h => h) (by rfl) (by intro y hy; obtain ⟨y0, y1⟩ := hy; go_simp) ?_
            try simp only [Act.put, List.setIfInBounds_toArray, List.set_cons_zero, List.set_cons_succ]
            refine anyH_take 10 87 (.bool false) SD rfl (by kernel_rfl) (by kernel_rfl) (by kernel_rfl) (fun _ _ _ h => h) (by rfl) (by intro y hy; obtain ⟨y0, y1⟩ := hy; go_simp) ?_
            try simp only [Act.put, List.setIfInBounds_toArray, List.set_cons_zero, List.set_cons_succ]
            refine anyH_take 11 88 (.bool false) SD rfl (by kernel_rfl) (by kernel_rfl) (by kernel_rfl) (fun _ _ _ h => h) (by rfl) (by intro y hy; obtain ⟨y0, y1⟩ := hy; go_simp) ?_
            try simp only [Act.put, List.setIfInBounds_toArray, List.set_cons_zero, List.set_cons_succ]
            refine anyH_take 12 89 (.pointer (some ⟨w22.heap.size, 0, none⟩)) SD rfl (by kernel_rfl) (by kernel_rfl) (by kernel_rfl) (fun _ _ _ h => h) (by rfl) (by intro y hy; obtain ⟨y0, y1⟩ := hy; go_simp) ?_
            try simp only [Act.put, List.setIfInBounds_toArray, List.set_cons_zero, List.set_cons_succ]
            refine anyH_take 13 90 (.int .i64 0) SD rfl (by kernel_rfl) (by kernel_rfl) (by kernel_rfl) (fun _ _ _ h => h) (by rfl) (by intro y hy; obtain ⟨y0, y1⟩ := hy; go_simp) ?_
            try simp only [Act.put, List.setIfInBounds_toArray, List.set_cons_zero, List.set_cons_succ]
            refine anyH_take 14 91 (.bool false) SD rfl (by kernel_rfl) (by kernel_rfl) (by kernel_rfl) (fun _ _ _ h => h) (by rfl) (by intro y hy; obtain ⟨y0, y1⟩ := hy; go_simp) ?_
            try simp only [Act.put, List.setIfInBounds_toArray, List.set_cons_zero, List.set_cons_succ]
            refine anyH_take 15 92 (.bool false) SD rfl (by kernel_rfl) (by kernel_rfl) (by kernel_rfl) (fun _ _ _ h => h) (by rfl) (by intro y hy; obtain ⟨y0, y1⟩ := hy; go_simp) ?_
            try simp only [Act.put, List.setIfInBounds_toArray, List.set_cons_zero, List.set_cons_succ]
            refine anyH_skip 16 93 SD rfl (by kernel_rfl) (by kernel_rfl) (by kernel_rfl) (fun _ _ _ h => h) (by rfl) ?_
            try simp only [Act.put, List.setIfInBounds_toArray, List.set_cons_zero, List.set_cons_succ]
            refine anyH_skip 17 94 SD rfl (by kernel_rfl) (by kernel_rfl) (by kernel_rfl) (fun _ _ _ h => h) (by rfl) ?_
            try simp only [Act.put, List.setIfInBounds_toArray, List.set_cons_zero, List.set_cons_succ]
            refine anyH_skip 18 95 SD rfl (by kernel_rfl) (by kernel_rfl) (by kernel_rfl) (fun _ _ _ h => h) (by rfl) ?_
            try simp only [Act.put, List.setIfInBounds_toArray, List.set_cons_zero, List.set_cons_succ]
            refine anyH_skip 19 96 SD rfl (by kernel_rfl) (by kernel_rfl) (by kernel_rfl) (fun _ _ _ h => h) (by rfl) ?_
            try simp only [Act.put, List.setIfInBounds_toArray, List.set_cons_zero, List.set_cons_succ]
            refine anyH_skip 20 97 SD rfl (by kernel_rfl) (by kernel_rfl) (by kernel_rfl) (fun _ _ _ h => h) (by rfl) ?_
            try simp only [Act.put, List.setIfInBounds_toArray, List.set_cons_zero, List.set_cons_succ]
            refine anyH_skip 21 98 SD rfl (by kernel_rfl) (by kernel_rfl) (by kernel_rfl) (fun _ _ _ h => h) (by rfl) ?_
            try simp only [Act.put, List.setIfInBounds_toArray, List.set_cons_zero, List.set_cons_succ]
            refine anyH_take 22 99 (.bool false) SD rfl (by kernel_rfl) (by kernel_rfl) (by kernel_rfl) (fun _ _ _ h => h) (by rfl) (by intro y hy; obtain ⟨y0, y1⟩ := hy; go_simp) ?_
            try simp only [Act.put, List.setIfInBounds_toArray, List.set_cons_zero, List.set_cons_succ]
            refine anyH_take 23 100 (.bool false) SD rfl (by kernel_rfl) (by kernel_rfl) (by kernel_rfl) (fun _ _ _ h => h) (by rfl) (by intro y hy; obtain ⟨y0, y1⟩ := hy; go_simp) ?_
            try simp only [Act.put, List.setIfInBounds_toArray, List.set_cons_zero, List.set_cons_succ]
            refine wpAnyH_done (by kernel_rfl) ?_ _
            have PQ := P24
            have XQ : Hid (Pp w w24 bx (Tr.ld u' (1 - 1))) := by rw [show (1 - 1 : Nat) = 0 from rfl, HLN0.out (by omega)]; exact X24
            clear P23 X23 G23 PZ XZ GZ G24
            clear HMP HDI HN0 HLD0 HLN0 hcell SD hrt1 hrt2 hb0
            go_wp2
            go_loopw [13] (fun v13 wr => ∃ i : Nat, 1 ≤ i ∧ i ≤ 9 ∧ v13 = .int .i64 i ∧ Hid (Pp w wr b u') ∧ Hid (Pp w wr bx (Tr.ld u' (i - 1)))) (fun v13 _ => 9 - (intOf v13).toNat)
            case atStart => exact ⟨1, by omega, by omega, rfl, PQ, XQ⟩
            case round =>
              clear PQ XQ
              obtain ⟨i, hi1, hi9, rfl, HP, HX⟩ := hrel
              by_cases hlt : i < 9
              · obtain ⟨i', hi'⟩ : ∃ i', i = i' + 1 := ⟨i - 1, by omega⟩
                have hin : (i : Int) < 9 := by omega
                have hi8 : i' < 8 := by omega
                have hwi : IntKind.i64.wrap ((i : Int) - 1) = (i' : Int) := by rw [IntWalk.i64_in _ ⟨by omega, by omega⟩]; omega
                have hii : i - 1 = i' := by omega
                rw [hii] at HX
                have hlf := HLF.out i hi1 hlt
                have HN := Lib.hid (fun (z : World) (h : Pp w z b u') => pnode_any (i : Int) z h.at_)
                have HPG : Hid (∀ z, Pp w z b u' → Calls Try.prog 25 #[.pointer (some ⟨b, 0, none⟩), .int .i64 (i : Int)] z (PgSay (Tr.pageL u' (i : Int)) z)) := fun z h => ppage_any (i : Int) z h.at_
                have hre : (Tr.pageL u' 0).getD i' Pg.zr = Tr.nodeR u' (i : Int) := by
                  rw [Tr.page_root u' i' hi8, (Tr.node_of (u := u') i hlt).2, hi']
                have HLDI : Hid (Tr.nodeB u' (i : Int) = true → ∀ z, Pp w z bx (Tr.ld u' i') → Calls Try.prog 24 #[.pointer (some ⟨bx, 0, none⟩), .int .i64 (i : Int), PV (Tr.pageL u' (i : Int)), .agg (rfA (Tr.nodeR u' (i : Int)))] z (fun e w' => e = .returned (.int .i64 0) ∧ Hid (Pp w w' bx (Tr.ld u' i)) ∧ Hid (Only bx z w'))) := fun hb z h => (pp_load (i : Int) _ (Tr.page_ok HOKT.out _) _ (HRO.out i) h).mono fun _ _ ⟨h1, h2, h3⟩ => ⟨by rw [h1, (HLA.out i hlt).2 i' hi' hb], by
                    have e : Tr.ld u' i = Tr.loadI (Tr.ld u' i') (i : Int) (Tr.pageL u' (i : Int)) (Tr.nodeR u' (i : Int)) := by rw [hi'] at hb ⊢; exact if_pos hb
                    rw [e]; exact h2, h3⟩
                have HLDN : Hid (Tr.nodeB u' (i : Int) = false → Tr.ld u' i = Tr.ld u' i') := fun hb => by rw [hi'] at hb ⊢; exact if_neg (by rw [hb]; exact Bool.false_ne_true)
                obtain ⟨R2, Z2, eA2, e332, hkR2, _⟩ := rfz (HRO.out i)
                have HRS2 := Lib.hid hkR2.size
                have HR12 := Lib.hid hkR2.one
                have hf2 := hkR2.first
                have hsR2 := row_size Try.sizeRef33 HRS2
                obtain ⟨A0', RA0, eP0, hkP0⟩ := pgk (Tr.page_ok HOKT.out 0)
                obtain ⟨A1, RA1, eP1, hkP1⟩ := pgk (Tr.page_ok HOKT.out (i : Int))
                have HPZ : Hid (∀ z, Pp w z b u' → Calls Try.prog 25 #[.pointer (some ⟨b, 0, none⟩), .int .i64 0] z (PgSay (Tr.pageL u' 0) z)) := fun z h => ppage_any 0 z h.at_
                have hra : RA0 i' = R2 := by
                  have q := hkP0.val i' hi8
                  rw [hre, e332] at q
                  injection q with q
                  exact q.symm
                have HPT : Hid (∀ z, (part 33 A0' (i' * 33)).run Try.prog z = .ok (.agg R2) z) := by have q := hkP0.part i' hi8; rw [hra] at q; exact q
                have hfld : ∀ z, (part 34 A0' 0).run Try.prog z = .ok (.agg A0') z := fun z => by
                  have q := part_refs (Tr.page_ok HOKT.out 0) z
                  have e6 : PV (Tr.pageL u' 0) = .agg (cs (Tr.pageL u' 0)).toArray := rfl
                  rw [e6] at eP0
                  injection eP0 with eP0
                  rw [eP0] at q
                  exact q
                have heqz := rf_eqs (HRO.out i) (HRO.out i)
                rw [decide_eq_true rfl, eA2] at heqz
                unfold RbSay at HN
                rw [e332, hlf] at HN
                rw [hlf] at HLDI HLDN
                unfold PgSay at HPG HPZ
                rw [eP1] at HPG HLDI
                rw [eP0] at HPZ
                rw [eA2] at HLDI
                obtain ⟨ai, hai⟩ : ∃ a, (Tr.nodeR u' (i : Int)).1 = a := ⟨_, rfl⟩
                rw [hai] at HN HLDI HLDN hf2
                have HI8 : Hid (i' < 8) := hi8
                clear HLF HLA HLS HRO HOKT hlf hre hkR2 hkP0 hkP1 eA2 e332 eP0 eP1 hra hai hi8 hlt HP0 HFN hi' hii
                by_cases hpos : ai > 0
                · rw [decide_eq_true (show 0 < ai from hpos)] at HN HLDI
                  have HLD := Lib.hid (HLDI.out rfl)
                  clear HLDI HLDN
                  go_upto_region 28 with (first
                    | (go_at_call 23; with_reducible refine (HN.out _ HP.out).mono ?_; rintro e40 w40 ⟨rfl, B40⟩)
                    | ((with_reducible refine row_store _ _ _ w40.heap.size _ _ _ ?_ ?_ (heap_alloc_new w40 _) hsR2 ?_ HR12.out ?_); (exact rfl); (exact rfl); (rw [HRS2.out, HZS.out]); intro w41 G41 ch41; have B41 := Lib.hid (ch41.below (B40.out.alloc B40.out.size _) B40.out.size); have P41 := Lib.hid (HP.out.next B41.out); have X41 := Lib.hid (HX.out.next B41.out)))
                  have hcl : ∀ y : World, y.heap[w40.heap.size]? = some (.cells R2 33 (0, 0)) → y.cell? ⟨w40.heap.size, 0, none⟩ = some (.int .i64 ai) := fun y hy => by rw [cell_of_row y _ _ _ _ _ hy]; exact hf2
                  have HGX2 : Hid (w40.heap.size ≠ bx) := by have h1 := HX.out.at_.lt; have h2 := B40.out.size; show _ ≠ _; omega
                  refine wp_region_any (by kernel_rfl) ?_
                  change wpAny _ _ _ _ _ _ _ (World.drew _)
                  have PZ : Hid (Pp w w41.drew b u') := ⟨⟨P41.out.at_.box, P41.out.at_.ok, P41.out.at_.tz, P41.out.at_.lo⟩, P41.out.inv, P41.out.old.drew⟩
                  have XZ : Hid (Pp w w41.drew bx (Tr.ld u' i')) := ⟨⟨X41.out.at_.box, X41.out.at_.ok, X41.out.at_.tz, X41.out.at_.lo⟩, X41.out.inv, X41.out.old.drew⟩
                  have GZ : Hid (w41.drew.heap[w40.heap.size]? = some (.cells R2 33 (0, 0))) := G41.out
                  obtain ⟨z, hz9⟩ : ∃ y, y = w41.drew := ⟨_, rfl⟩
                  rw [← hz9] at PZ XZ GZ ⊢
                  clear hz9
                  refine wpAny_of_held (S := fun y => y.heap[w40.heap.size]? = some (.cells R2 33 (0, 0)) ∧ y.cell? ⟨w40.heap.size, 0, none⟩ = some (.int .i64 ai)) _ _ _ _ ?_
                  have SD : (fun y => y.heap[w40.heap.size]? = some (.cells R2 33 (0, 0)) ∧ y.cell? ⟨w40.heap.size, 0, none⟩ = some (.int .i64 ai)) z := ⟨GZ.out, hcl _ GZ.out⟩
                  refine anyH_take 0 111 (.pointer (some ⟨b, 0, none⟩)) SD rfl (by kernel_rfl) (by kernel_rfl) (by kernel_rfl) (fun _ _ _ h => h) (by rfl) (by intro y hy; obtain ⟨y0, y1⟩ := hy; go_simp) ?_
                  try simp only [Act.put, List.setIfInBounds_toArray, List.set_cons_zero, List.set_cons_succ]
                  refine anyH_take 3 114 (.int .i64 (i : Int)) SD rfl (by kernel_rfl) (by kernel_rfl) (by kernel_rfl) (fun _ _ _ h => h) (by rfl) (by intro y hy; obtain ⟨y0, y1⟩ := hy; go_simp) ?_
                  try simp only [Act.put, List.setIfInBounds_toArray, List.set_cons_zero, List.set_cons_succ]
                  refine anyH_take 4 115 (.int .i64 (i' : Int)) SD rfl (by kernel_rfl) (by kernel_rfl) (by kernel_rfl) (fun _ _ _ h => h) (by rfl) (by intro y hy; obtain ⟨y0, y1⟩ := hy; go_simp) ?_
                  try simp only [Act.put, List.setIfInBounds_toArray, List.set_cons_zero, List.set_cons_succ]
                  refine anyH_take 6 117 (.agg R2) SD rfl (by kernel_rfl) (by kernel_rfl) (by kernel_rfl) (fun _ _ _ h => h) (by rfl) (fun y hy => exec_arr _ _ w40.heap.size 0 _ _ rfl (rng_whole hy.1) Try.underlying33 rfl hsR2) ?_
                  try simp only [Act.put, List.setIfInBounds_toArray, List.set_cons_zero, List.set_cons_succ]
                  refine anyH_one 1 (by kernel_rfl) ?_
                  refine wpOp_step rfl (fun Kc hKc => ?_)
                  go_simp
                  refine (HPZ.out _ PZ.out).mono ?_
                  rintro e42 w42 ⟨rfl, B42⟩
                  have P42 := Lib.hid (PZ.out.next B42.out)
                  have X42 := Lib.hid (XZ.out.next B42.out)
                  have G42 := Lib.hid (below_kept B42.out GZ.out)
                  have SD42 : (fun y => y.heap[w40.heap.size]? = some (.cells R2 33 (0, 0)) ∧ y.cell? ⟨w40.heap.size, 0, none⟩ = some (.int .i64 ai)) w42 := ⟨G42.out, hcl _ G42.out⟩
                  dsimp only
                  refine hKc _ _ ⟨SD42, ?_⟩
                  clear hKc Kc SD
                  have SD := SD42
                  try simp only [Act.put, List.setIfInBounds_toArray, List.set_cons_zero, List.set_cons_succ]
                  refine anyH_take 2 113 (.agg A0') SD rfl (by kernel_rfl) (by kernel_rfl) (by kernel_rfl) (fun _ _ _ h => h) (by rfl) (fun y hy => exec_field1 _ _ _ _ _ A0' _ _ rfl Try.underlying36 Try.fieldsPage hfld) ?_
                  try simp only [Act.put, List.setIfInBounds_toArray, List.set_cons_zero, List.set_cons_succ]
                  refine anyH_take 5 116 (.agg R2) SD rfl (by kernel_rfl) (by kernel_rfl) (by kernel_rfl) (fun _ _ _ h => h) (by rfl) (fun y hy => exec_index _ _ _ _ A0' i' 8 33 _ rfl rfl Try.underlying34 HI8.out Try.sizeRef33 HPT.out) ?_
                  try simp only [Act.put, List.setIfInBounds_toArray, List.set_cons_zero, List.set_cons_succ]
                  refine anyH_take 7 118 (.bool false) SD rfl (by kernel_rfl) (by kernel_rfl) (by kernel_rfl) (fun _ _ _ h => h) (by rfl) (by intro y hy; obtain ⟨y0, y1⟩ := hy; go_simp) ?_
                  try simp only [Act.put, List.setIfInBounds_toArray, List.set_cons_zero, List.set_cons_succ]
                  refine anyH_take 8 119 (.bool false) SD rfl (by kernel_rfl) (by kernel_rfl) (by kernel_rfl) (fun _ _ _ h => h) (by rfl) (by intro y hy; obtain ⟨y0, y1⟩ := hy; go_simp) ?_
                  try simp only [Act.put, List.setIfInBounds_toArray, List.set_cons_zero, List.set_cons_succ]
                  refine anyH_take 9 120 (.bool true) SD rfl (by kernel_rfl) (by kernel_rfl) (by kernel_rfl) (fun _ _ _ h => h) (by rfl) (by intro y hy; obtain ⟨y0, y1⟩ := hy; go_simp) ?_
                  try simp only [Act.put, List.setIfInBounds_toArray, List.set_cons_zero, List.set_cons_succ]
                  refine anyH_take 10 121 (.pointer (some ⟨w40.heap.size, 0, none⟩)) SD rfl (by kernel_rfl) (by kernel_rfl) (by kernel_rfl) (fun _ _ _ h => h) (by rfl) (by intro y hy; obtain ⟨y0, y1⟩ := hy; go_simp) ?_
                  try simp only [Act.put, List.setIfInBounds_toArray, List.set_cons_zero, List.set_cons_succ]
                  refine anyH_take 11 122 (.int .i64 ai) SD rfl (by kernel_rfl) (by kernel_rfl) (by kernel_rfl) (fun _ _ _ h => h) (by rfl) (by intro y hy; obtain ⟨y0, y1⟩ := hy; go_simp) ?_
                  try simp only [Act.put, List.setIfInBounds_toArray, List.set_cons_zero, List.set_cons_succ]
                  refine anyH_take 12 123 (.bool true) SD rfl (by kernel_rfl) (by kernel_rfl) (by kernel_rfl) (fun _ _ _ h => h) (by rfl) (by intro y hy; obtain ⟨y0, y1⟩ := hy; go_simp) ?_
                  try simp only [Act.put, List.setIfInBounds_toArray, List.set_cons_zero, List.set_cons_succ]
                  refine anyH_take 13 124 (.bool false) SD rfl (by kernel_rfl) (by kernel_rfl) (by kernel_rfl) (fun _ _ _ h => h) (by rfl) (by intro y hy; obtain ⟨y0, y1⟩ := hy; go_simp) ?_
                  try simp only [Act.put, List.setIfInBounds_toArray, List.set_cons_zero, List.set_cons_succ]
                  refine anyH_take 14 125 (.bool false) SD rfl (by kernel_rfl) (by kernel_rfl) (by kernel_rfl) (fun _ _ _ h => h) (by rfl) (by intro y hy; obtain ⟨y0, y1⟩ := hy; go_simp) ?_
                  try simp only [Act.put, List.setIfInBounds_toArray, List.set_cons_zero, List.set_cons_succ]
                  refine anyH_take 15 126 (.bool false) SD rfl (by kernel_rfl) (by kernel_rfl) (by kernel_rfl) (fun _ _ _ h => h) (by rfl) (by intro y hy; obtain ⟨y0, y1⟩ := hy; go_simp) ?_
                  try simp only [Act.put, List.setIfInBounds_toArray, List.set_cons_zero, List.set_cons_succ]
                  refine anyH_take 16 127 (.bool true) SD rfl (by kernel_rfl) (by kernel_rfl) (by kernel_rfl) (fun _ _ _ h => h) (by rfl) (by intro y hy; obtain ⟨y0, y1⟩ := hy; go_simp) ?_
                  try simp only [Act.put, List.setIfInBounds_toArray, List.set_cons_zero, List.set_cons_succ]
                  refine anyH_take 17 128 (.bool true) SD rfl (by kernel_rfl) (by kernel_rfl) (by kernel_rfl) (fun _ _ _ h => h) (by rfl) (by intro y hy; obtain ⟨y0, y1⟩ := hy; go_simp) ?_
                  try simp only [Act.put, List.setIfInBounds_toArray, List.set_cons_zero, List.set_cons_succ]
                  refine anyH_take 18 129 (.pointer (some ⟨bx, 0, none⟩)) SD rfl (by kernel_rfl) (by kernel_rfl) (by kernel_rfl) (fun _ _ _ h => h) (by rfl) (by intro y hy; obtain ⟨y0, y1⟩ := hy; go_simp) ?_
                  try simp only [Act.put, List.setIfInBounds_toArray, List.set_cons_zero, List.set_cons_succ]
                  refine anyH_take 19 130 (.int .i64 (i : Int)) SD rfl (by kernel_rfl) (by kernel_rfl) (by kernel_rfl) (fun _ _ _ h => h) (by rfl) (by intro y hy; obtain ⟨y0, y1⟩ := hy; go_simp) ?_
                  try simp only [Act.put, List.setIfInBounds_toArray, List.set_cons_zero, List.set_cons_succ]
                  refine anyH_take 20 131 (.pointer (some ⟨b, 0, none⟩)) SD rfl (by kernel_rfl) (by kernel_rfl) (by kernel_rfl) (fun _ _ _ h => h) (by rfl) (by intro y hy; obtain ⟨y0, y1⟩ := hy; go_simp) ?_
                  try simp only [Act.put, List.setIfInBounds_toArray, List.set_cons_zero, List.set_cons_succ]
                  refine anyH_take 21 132 (.int .i64 (i : Int)) SD rfl (by kernel_rfl) (by kernel_rfl) (by kernel_rfl) (fun _ _ _ h => h) (by rfl) (by intro y hy; obtain ⟨y0, y1⟩ := hy; go_simp) ?_
                  try simp only [Act.put, List.setIfInBounds_toArray, List.set_cons_zero, List.set_cons_succ]
                  refine anyH_take 23 134 (.agg R2) SD rfl (by kernel_rfl) (by kernel_rfl) (by kernel_rfl) (fun _ _ _ h => h) (by rfl) (fun y hy => exec_arr _ _ w40.heap.size 0 _ _ rfl (rng_whole hy.1) Try.underlying33 rfl hsR2) ?_
                  try simp only [Act.put, List.setIfInBounds_toArray, List.set_cons_zero, List.set_cons_succ]
                  refine anyH_one 22 (by kernel_rfl) ?_
                  refine wpOp_step rfl (fun Kc hKc => ?_)
                  go_simp
                  refine (HPG.out _ P42.out).mono ?_
                  rintro e43 w43 ⟨rfl, B43⟩
                  have P43 := Lib.hid (P42.out.next B43.out)
                  have X43 := Lib.hid (X42.out.next B43.out)
                  have G43 := Lib.hid (below_kept B43.out G42.out)
                  have SD43 : (fun y => y.heap[w40.heap.size]? = some (.cells R2 33 (0, 0)) ∧ y.cell? ⟨w40.heap.size, 0, none⟩ = some (.int .i64 ai)) w43 := ⟨G43.out, hcl _ G43.out⟩
                  dsimp only
                  refine hKc _ _ ⟨SD43, ?_⟩
                  clear hKc Kc SD
                  have SD := SD43
                  try simp only [Act.put, List.setIfInBounds_toArray, List.set_cons_zero, List.set_cons_succ]
                  refine anyH_one 24 (by kernel_rfl) ?_
                  refine wpOp_step rfl (fun Kc hKc => ?_)
                  go_simp
                  refine (HLD.out _ X43.out).mono ?_
                  rintro e44 w44 ⟨rfl, X44, O44⟩
                  have P44 := Lib.hid (P43.out.other O44.out HNB.out X44.out.at_.lo)
                  have G44 := Lib.hid ((O44.out.block _ (lt_of_block G43.out) HGX2.out).trans G43.out)
                  have SD44 : (fun y => y.heap[w40.heap.size]? = some (.cells R2 33 (0, 0)) ∧ y.cell? ⟨w40.heap.size, 0, none⟩ = some (.int .i64 ai)) w44 := ⟨G44.out, hcl _ G44.out⟩
                  dsimp only
                  refine hKc _ _ ⟨SD44, ?_⟩
                  clear hKc Kc SD
                  have SD := SD44
                  try simp only [Act.put, List.setIfInBounds_toArray, List.set_cons_zero, List.set_cons_succ]
                  refine anyH_take 25 136 (.bool false) SD rfl (by kernel_rfl) (by kernel_rfl) (by kernel_rfl) (fun _ _ _ h => h) (by rfl) (by intro y hy; obtain ⟨y0, y1⟩ := hy; go_simp) ?_
                  try simp only [Act.put, List.setIfInBounds_toArray, List.set_cons_zero, List.set_cons_succ]
                  refine anyH_take 26 137 (.bool false) SD rfl (by kernel_rfl) (by kernel_rfl) (by kernel_rfl) (fun _ _ _ h => h) (by rfl) (by intro y hy; obtain ⟨y0, y1⟩ := hy; go_simp) ?_
                  try simp only [Act.put, List.setIfInBounds_toArray, List.set_cons_zero, List.set_cons_succ]
                  refine anyH_take 27 138 (.bool false) SD rfl (by kernel_rfl) (by kernel_rfl) (by kernel_rfl) (fun _ _ _ h => h) (by rfl) (by intro y hy; obtain ⟨y0, y1⟩ := hy; go_simp) ?_
                  try simp only [Act.put, List.setIfInBounds_toArray, List.set_cons_zero, List.set_cons_succ]
                  refine wpAnyH_done (by kernel_rfl) ?_ _
                  go_wp2
                  exact ⟨⟨i + 1, by omega, by omega, by go_num, P44, X44⟩, by simp [intOf]; omega⟩
                · rw [decide_eq_false (show ¬ 0 < ai from hpos)] at HN HLDN
                  have HLE := HLDN.out rfl
                  clear HLDI HLDN
                  go_upto_region 28 with (first
                    | (go_at_call 23; with_reducible refine (HN.out _ HP.out).mono ?_; rintro e40 w40 ⟨rfl, B40⟩)
                    | ((with_reducible refine row_store _ _ _ w40.heap.size _ _ _ ?_ ?_ (heap_alloc_new w40 _) hsR2 ?_ HR12.out ?_); (exact rfl); (exact rfl); (rw [HRS2.out, HZS.out]); intro w41 G41 ch41; have B41 := Lib.hid (ch41.below (B40.out.alloc B40.out.size _) B40.out.size); have P41 := Lib.hid (HP.out.next B41.out); have X41 := Lib.hid (HX.out.next B41.out)))
                  have hcl : ∀ y : World, y.heap[w40.heap.size]? = some (.cells R2 33 (0, 0)) → y.cell? ⟨w40.heap.size, 0, none⟩ = some (.int .i64 ai) := fun y hy => by rw [cell_of_row y _ _ _ _ _ hy]; exact hf2
                  have HGX2 : Hid (w40.heap.size ≠ bx) := by have h1 := HX.out.at_.lt; have h2 := B40.out.size; show _ ≠ _; omega
                  refine wp_region_any (by kernel_rfl) ?_
                  change wpAny _ _ _ _ _ _ _ (World.drew _)
                  have PZ : Hid (Pp w w41.drew b u') := ⟨⟨P41.out.at_.box, P41.out.at_.ok, P41.out.at_.tz, P41.out.at_.lo⟩, P41.out.inv, P41.out.old.drew⟩
                  have XZ : Hid (Pp w w41.drew bx (Tr.ld u' i')) := ⟨⟨X41.out.at_.box, X41.out.at_.ok, X41.out.at_.tz, X41.out.at_.lo⟩, X41.out.inv, X41.out.old.drew⟩
                  have GZ : Hid (w41.drew.heap[w40.heap.size]? = some (.cells R2 33 (0, 0))) := G41.out
                  obtain ⟨z, hz9⟩ : ∃ y, y = w41.drew := ⟨_, rfl⟩
                  rw [← hz9] at PZ XZ GZ ⊢
                  clear hz9
                  refine wpAny_of_held (S := fun y => y.heap[w40.heap.size]? = some (.cells R2 33 (0, 0)) ∧ y.cell? ⟨w40.heap.size, 0, none⟩ = some (.int .i64 ai)) _ _ _ _ ?_
                  have SD : (fun y => y.heap[w40.heap.size]? = some (.cells R2 33 (0, 0)) ∧ y.cell? ⟨w40.heap.size, 0, none⟩ = some (.int .i64 ai)) z := ⟨GZ.out, hcl _ GZ.out⟩
                  refine anyH_take 0 111 (.pointer (some ⟨b, 0, none⟩)) SD rfl (by kernel_rfl) (by kernel_rfl) (by kernel_rfl) (fun _ _ _ h => h) (by rfl) (by intro y hy; obtain ⟨y0, y1⟩ := hy; go_simp) ?_
                  try simp only [Act.put, List.setIfInBounds_toArray, List.set_cons_zero, List.set_cons_succ]
                  refine anyH_take 3 114 (.int .i64 (i : Int)) SD rfl (by kernel_rfl) (by kernel_rfl) (by kernel_rfl) (fun _ _ _ h => h) (by rfl) (by intro y hy; obtain ⟨y0, y1⟩ := hy; go_simp) ?_
                  try simp only [Act.put, List.setIfInBounds_toArray, List.set_cons_zero, List.set_cons_succ]
                  refine anyH_take 4 115 (.int .i64 (i' : Int)) SD rfl (by kernel_rfl) (by kernel_rfl) (by kernel_rfl) (fun _ _ _ h => h) (by rfl) (by intro y hy; obtain ⟨y0, y1⟩ := hy; go_simp) ?_
                  try simp only [Act.put, List.setIfInBounds_toArray, List.set_cons_zero, List.set_cons_succ]
                  refine anyH_take 6 117 (.agg R2) SD rfl (by kernel_rfl) (by kernel_rfl) (by kernel_rfl) (fun _ _ _ h => h) (by rfl) (fun y hy => exec_arr _ _ w40.heap.size 0 _ _ rfl (rng_whole hy.1) Try.underlying33 rfl hsR2) ?_
                  try simp only [Act.put, List.setIfInBounds_toArray, List.set_cons_zero, List.set_cons_succ]
                  refine anyH_one 1 (by kernel_rfl) ?_
                  refine wpOp_step rfl (fun Kc hKc => ?_)
                  go_simp
                  refine (HPZ.out _ PZ.out).mono ?_
                  rintro e42 w42 ⟨rfl, B42⟩
                  have P42 := Lib.hid (PZ.out.next B42.out)
                  have X42 := Lib.hid (XZ.out.next B42.out)
                  have G42 := Lib.hid (below_kept B42.out GZ.out)
                  have SD42 : (fun y => y.heap[w40.heap.size]? = some (.cells R2 33 (0, 0)) ∧ y.cell? ⟨w40.heap.size, 0, none⟩ = some (.int .i64 ai)) w42 := ⟨G42.out, hcl _ G42.out⟩
                  dsimp only
                  refine hKc _ _ ⟨SD42, ?_⟩
                  clear hKc Kc SD
                  have SD := SD42
                  try simp only [Act.put, List.setIfInBounds_toArray, List.set_cons_zero, List.set_cons_succ]
                  refine anyH_take 2 113 (.agg A0') SD rfl (by kernel_rfl) (by kernel_rfl) (by kernel_rfl) (fun _ _ _ h => h) (by rfl) (fun y hy => exec_field1 _ _ _ _ _ A0' _ _ rfl Try.underlying36 Try.fieldsPage hfld) ?_
                  try simp only [Act.put, List.setIfInBounds_toArray, List.set_cons_zero, List.set_cons_succ]
                  refine anyH_take 5 116 (.agg R2) SD rfl (by kernel_rfl) (by kernel_rfl) (by kernel_rfl) (fun _ _ _ h => h) (by rfl) (fun y hy => exec_index _ _ _ _ A0' i' 8 33 _ rfl rfl Try.underlying34 HI8.out Try.sizeRef33 HPT.out) ?_
                  try simp only [Act.put, List.setIfInBounds_toArray, List.set_cons_zero, List.set_cons_succ]
                  refine anyH_take 7 118 (.bool false) SD rfl (by kernel_rfl) (by kernel_rfl) (by kernel_rfl) (fun _ _ _ h => h) (by rfl) (by intro y hy; obtain ⟨y0, y1⟩ := hy; go_simp) ?_
                  try simp only [Act.put, List.setIfInBounds_toArray, List.set_cons_zero, List.set_cons_succ]
                  refine anyH_take 8 119 (.bool false) SD rfl (by kernel_rfl) (by kernel_rfl) (by kernel_rfl) (fun _ _ _ h => h) (by rfl) (by intro y hy; obtain ⟨y0, y1⟩ := hy; go_simp) ?_
                  try simp only [Act.put, List.setIfInBounds_toArray, List.set_cons_zero, List.set_cons_succ]
                  refine anyH_take 9 120 (.bool false) SD rfl (by kernel_rfl) (by kernel_rfl) (by kernel_rfl) (fun _ _ _ h => h) (by rfl) (by intro y hy; obtain ⟨y0, y1⟩ := hy; go_simp) ?_
                  try simp only [Act.put, List.setIfInBounds_toArray, List.set_cons_zero, List.set_cons_succ]
                  refine anyH_take 10 121 (.pointer (some ⟨w40.heap.size, 0, none⟩)) SD rfl (by kernel_rfl) (by kernel_rfl) (by kernel_rfl) (fun _ _ _ h => h) (by rfl) (by intro y hy; obtain ⟨y0, y1⟩ := hy; go_simp) ?_
                  try simp only [Act.put, List.setIfInBounds_toArray, List.set_cons_zero, List.set_cons_succ]
                  refine anyH_take 11 122 (.int .i64 ai) SD rfl (by kernel_rfl) (by kernel_rfl) (by kernel_rfl) (fun _ _ _ h => h) (by rfl) (by intro y hy; obtain ⟨y0, y1⟩ := hy; go_simp) ?_
                  try simp only [Act.put, List.setIfInBounds_toArray, List.set_cons_zero, List.set_cons_succ]
                  refine anyH_take 12 123 (.bool false) SD rfl (by kernel_rfl) (by kernel_rfl) (by kernel_rfl) (fun _ _ _ h => h) (by rfl) (by intro y hy; obtain ⟨y0, y1⟩ := hy; go_simp) ?_
                  try simp only [Act.put, List.setIfInBounds_toArray, List.set_cons_zero, List.set_cons_succ]
                  refine anyH_take 13 124 (.bool false) SD rfl (by kernel_rfl) (by kernel_rfl) (by kernel_rfl) (fun _ _ _ h => h) (by rfl) (by intro y hy; obtain ⟨y0, y1⟩ := hy; go_simp) ?_
                  try simp only [Act.put, List.setIfInBounds_toArray, List.set_cons_zero, List.set_cons_succ]
                  refine anyH_take 14 125 (.bool false) SD rfl (by kernel_rfl) (by kernel_rfl) (by kernel_rfl) (fun _ _ _ h => h) (by rfl) (by intro y hy; obtain ⟨y0, y1⟩ := hy; go_simp) ?_
                  try simp only [Act.put, List.setIfInBounds_toArray, List.set_cons_zero, List.set_cons_succ]
                  refine anyH_take 15 126 (.bool false) SD rfl (by kernel_rfl) (by kernel_rfl) (by kernel_rfl) (fun _ _ _ h => h) (by rfl) (by intro y hy; obtain ⟨y0, y1⟩ := hy; go_simp) ?_
                  try simp only [Act.put, List.setIfInBounds_toArray, List.set_cons_zero, List.set_cons_succ]
                  refine anyH_take 16 127 (.bool false) SD rfl (by kernel_rfl) (by kernel_rfl) (by kernel_rfl) (fun _ _ _ h => h) (by rfl) (by intro y hy; obtain ⟨y0, y1⟩ := hy; go_simp) ?_
                  try simp only [Act.put, List.setIfInBounds_toArray, List.set_cons_zero, List.set_cons_succ]
                  refine anyH_take 17 128 (.bool false) SD rfl (by kernel_rfl) (by kernel_rfl) (by kernel_rfl) (fun _ _ _ h => h) (by rfl) (by intro y hy; obtain ⟨y0, y1⟩ := hy; go_simp) ?_
                  try simp only [Act.put, List.setIfInBounds_toArray, List.set_cons_zero, List.set_cons_succ]
                  refine anyH_skip 18 129 SD rfl (by kernel_rfl) (by kernel_rfl) (by kernel_rfl) (fun _ _ _ h => h) (by rfl) ?_
                  try simp only [Act.put, List.setIfInBounds_toArray, List.set_cons_zero, List.set_cons_succ]
                  refine anyH_skip 19 130 SD rfl (by kernel_rfl) (by kernel_rfl) (by kernel_rfl) (fun _ _ _ h => h) (by rfl) ?_
                  try simp only [Act.put, List.setIfInBounds_toArray, List.set_cons_zero, List.set_cons_succ]
                  refine anyH_skip 20 131 SD rfl (by kernel_rfl) (by kernel_rfl) (by kernel_rfl) (fun _ _ _ h => h) (by rfl) ?_
                  try simp only [Act.put, List.setIfInBounds_toArray, List.set_cons_zero, List.set_cons_succ]
                  refine anyH_skip 21 132 SD rfl (by kernel_rfl) (by kernel_rfl) (by kernel_rfl) (fun _ _ _ h => h) (by rfl) ?_
                  try simp only [Act.put, List.setIfInBounds_toArray, List.set_cons_zero, List.set_cons_succ]
                  refine anyH_skip 22 133 SD rfl (by kernel_rfl) (by kernel_rfl) (by kernel_rfl) (fun _ _ _ h => h) (by rfl) ?_
                  try simp only [Act.put, List.setIfInBounds_toArray, List.set_cons_zero, List.set_cons_succ]
                  refine anyH_skip 23 134 SD rfl (by kernel_rfl) (by kernel_rfl) (by kernel_rfl) (fun _ _ _ h => h) (by rfl) ?_
                  try simp only [Act.put, List.setIfInBounds_toArray, List.set_cons_zero, List.set_cons_succ]
                  refine anyH_skip 24 135 SD rfl (by kernel_rfl) (by kernel_rfl) (by kernel_rfl) (fun _ _ _ h => h) (by rfl) ?_
                  try simp only [Act.put, List.setIfInBounds_toArray, List.set_cons_zero, List.set_cons_succ]
                  refine anyH_skip 25 136 SD rfl (by kernel_rfl) (by kernel_rfl) (by kernel_rfl) (fun _ _ _ h => h) (by rfl) ?_
                  try simp only [Act.put, List.setIfInBounds_toArray, List.set_cons_zero, List.set_cons_succ]
                  refine anyH_take 26 137 (.bool false) SD rfl (by kernel_rfl) (by kernel_rfl) (by kernel_rfl) (fun _ _ _ h => h) (by rfl) (by intro y hy; obtain ⟨y0, y1⟩ := hy; go_simp) ?_
                  try simp only [Act.put, List.setIfInBounds_toArray, List.set_cons_zero, List.set_cons_succ]
                  refine anyH_take 27 138 (.bool false) SD rfl (by kernel_rfl) (by kernel_rfl) (by kernel_rfl) (fun _ _ _ h => h) (by rfl) (by intro y hy; obtain ⟨y0, y1⟩ := hy; go_simp) ?_
                  try simp only [Act.put, List.setIfInBounds_toArray, List.set_cons_zero, List.set_cons_succ]
                  refine wpAnyH_done (by kernel_rfl) ?_ _
                  go_wp2
                  exact ⟨⟨i + 1, by omega, by omega, by go_num, P42, by rw [Nat.add_sub_cancel, HLE]; exact X42⟩, by simp [intOf]; omega⟩
              · have E : i = 9 := by omega
                subst E
                obtain ⟨s1, s2, s3⟩ := HLS.out
                have HX8 : Hid (Pp w wr bx (Tr.ld u' 8)) := HX
                have HRX : Hid (∀ z, Pp w z bx (Tr.ld u' 8) → Calls Try.prog 14 #[.pointer (some ⟨bx, 0, none⟩)] z (ToSay (Tr.refs u') z)) := fun z h => by have q := prefs_any z h.at_; rw [s1] at q; exact q
                have HRT : Hid (∀ z, Pp w z b u' → Calls Try.prog 14 #[.pointer (some ⟨b, 0, none⟩)] z (ToSay (Tr.refs u') z)) := fun z h => prefs_any z h.at_
                have HMX : Hid (∀ z, Pp w z bx (Tr.ld u' 8) → Calls Try.prog 18 #[.pointer (some ⟨bx, 0, none⟩)] z fun e w' => e = .returned (.int .i64 (Tr.mapped u' : Int)) ∧ Hid (Below z.heap.size z w')) := fun z h => by have q := pmapped_any z h.at_; rw [s2] at q; exact q
                have HMT : Hid (∀ z, Pp w z b u' → Calls Try.prog 18 #[.pointer (some ⟨b, 0, none⟩)] z fun e w' => e = .returned (.int .i64 (Tr.mapped u' : Int)) ∧ Hid (Below z.heap.size z w')) := fun z h => pmapped_any z h.at_
                have HDX : Hid (∀ z, Pp w z bx (Tr.ld u' 8) → Calls Try.prog 20 #[.pointer (some ⟨bx, 0, none⟩)] z (fun e w' => ∃ p c, e = .returned (.slice p 0 c) ∧ Hid (Below z.heap.size z w'))) := fun z h => (pdirty_any z h.at_).mono fun _ _ ⟨v, h1, h2, h3⟩ => by
                  rw [s3, HFN.out] at h2
                  obtain ⟨p, c, e⟩ := h2.out.len
                  exact ⟨p, c, by rw [h1, e]; rfl, h3⟩
                have HSR : Hid (∀ z B C u v, Fl B 33 33 z u ((Tr.refs u').map rfA) → Fl C 33 33 z v ((Tr.refs u').map rfA) → Calls Try.prog 26 #[u, v] z (BoSay true z)) := fun z B C u v hu hv => by
                  have q := samerefs_any (refs_ok HOKT.out) (refs_ok HOKT.out) (by have := refs_le u'; omega) z hu hv
                  rw [decide_eq_true rfl] at q
                  exact q
                unfold ToSay at HRX HRT
                unfold BoSay at HSR
                generalize Tr.mapped u' = mq at *
                have hself : ((mq : Int) == (mq : Int)) = true := by simp
                clear hlt HX HLF HLA HLS HRO HOKT HP0 s1 s2 s3
                go_wp2_with (first
                  | (go_at_call 14; with_reducible refine (HRX.out _ HX8.out).mono ?_; rintro e30 w30 ⟨v30, rfl, F30, B30⟩; have P30 := Lib.hid (HP.out.next B30.out); have X30 := Lib.hid (HX8.out.next B30.out))
                  | (go_at_call 14; with_reducible refine (HRT.out _ P30.out).mono ?_; rintro e31 w31 ⟨v31, rfl, F31, B31⟩; have P31 := Lib.hid (P30.out.next B31.out); have X31 := Lib.hid (X30.out.next B31.out); have F30' := Lib.hid (F30.out.old B31.out))
                  | (go_at_call 26; with_reducible refine (HSR.out _ _ _ _ _ F30'.out F31.out).mono ?_; rintro e32 w32 ⟨rfl, B32⟩; have P32 := Lib.hid (P31.out.next B32.out); have X32 := Lib.hid (X31.out.next B32.out))
                  | (go_at_call 18; with_reducible refine (HMX.out _ X32.out).mono ?_; rintro e33 w33 ⟨rfl, B33⟩; have P33 := Lib.hid (P32.out.next B33.out); have X33 := Lib.hid (X32.out.next B33.out))
                  | (go_at_call 18; with_reducible refine (HMT.out _ P33.out).mono ?_; rintro e34 w34 ⟨rfl, B34⟩; have P34 := Lib.hid (P33.out.next B34.out); have X34 := Lib.hid (X33.out.next B34.out))
                  | (go_at_call 20; with_reducible refine (HDX.out _ X34.out).mono ?_; rintro e35 w35 ⟨p35, c35, rfl, B35⟩; have P35 := Lib.hid (P34.out.next B35.out))
                  | (go_at_call 9; with_reducible refine (HW.out _).mono ?_; rintro e36 w36 ⟨rfl, B36⟩; have P36 := Lib.hid (P35.out.next B36.out)))
                go_ret
                exact ⟨rfl, Lib.hid P36.out.old⟩
end Go.Proofs.Ytfeemeddhhgigaa

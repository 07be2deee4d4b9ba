/-
  Both trees beside one another: do they tell the same?
-/
import Derived.Test.YtfeemeddhhgigaaTrLdR
import Derived.Test.YtfeemeddhhgigaaTrPgR
namespace Go.Proofs.Ytfeemeddhhgigaa
open Go.RowKit

theorem IxO.own_lo {B : Nat} {y : World} {v : Value} {L : List Nat} (h : IxO B y v L) : ∀ g, v.ownBlock = some g → B ≤ g ∧ g < y.heap.size := fun g hg => by
  rcases h.2 with ⟨rfl, _⟩ | ⟨g', cap, cur, rfl, q0, q1, _⟩
  · cases hg
  · have e : g' = g := Option.some.inj hg
    subst e
    exact ⟨q0, lt_of_block q1⟩
theorem Fl.own_lo {B e s : Nat} {y : World} {v : Value} {L : List (Array Value)} (h : Fl B e s y v L) : ∀ g, v.ownBlock = some g → B ≤ g ∧ g < y.heap.size := fun g hg => by
  rcases h.1.2 with ⟨rfl, _⟩ | ⟨g', cap, cur, rfl, q0, q1, _⟩
  · cases hg
  · have e : g' = g := Option.some.inj hg
    subst e
    exact ⟨q0, lt_of_block q1⟩
theorem Sp.ixo {B : Nat} {u v : Value} {w w' : World} {L : List Nat} (h : Sp v w w') (hi : IxO B w u L) (hg : ∀ g, v.ownBlock = some g → g < B) : IxO B w' u L := by
  rcases h with rfl | ⟨g, hv, ho⟩
  · exact hi
  · exact hi.only ho (fun e => by have := (hi.own_lo g e).1; have := hg g hv; omega)
/-- Both trees, each as it is. -/
structure Bo (x y : World) (b c : Nat) (t : Tr.T) : Prop where
  p : Pp x y b t
  r : RS x.heap.size y c t
section
variable {x w y : World} {b c : Nat} {t : Tr.T}
theorem Bo.next (h : Bo x w b c t) (hb : Below w.heap.size w y) : Bo x y b c t := ⟨h.p.next hb, h.r.old hb⟩
theorem bo_refs (h : Bo x w b c t) : Calls Try.prog 30 #[.pointer (some ⟨c, 0, none⟩)] w (ToSay (Tr.refs t) w) := by
  obtain ⟨vb, vn, L, h1, h2⟩ := h.r
  have q := rrefs_any w h1 (by have := h2.len; omega) h.p.inv.off
  unfold RfsSay at q
  rw [rl_refs] at q
  exact q
theorem bo_dirty (h : Bo x w b c t) : Calls Try.prog 31 #[.pointer (some ⟨c, 0, none⟩)] w (DiSay t w) := by
  obtain ⟨vb, vn, L, h1, h2⟩ := h.r
  exact rdirty_any w h1 (by have := h2.len; omega) h.p.inv.off
theorem bo_mapped (h : Bo x w b c t) : Calls Try.prog 32 #[.pointer (some ⟨c, 0, none⟩)] w fun e w' => e = .returned (.int .i64 (Tr.mapped t : Int)) ∧ Hid (Below w.heap.size w w') := by
  obtain ⟨vb, vn, L, h1, h2⟩ := h.r
  exact mapped_any w h1
theorem bo_node (N : Int) (h : Bo x w b c t) : Calls Try.prog 35 #[.pointer (some ⟨c, 0, none⟩), .int .i64 N] w (RbSay (Tr.nodeR t N) (Tr.nodeB t N) w) := by
  obtain ⟨vb, vn, L, h1, h2⟩ := h.r
  exact node_any N w h1 (by have := h2.len; omega) h.p.inv.off
theorem bo_get (N : Int) (h : Bo x w b c t) : Calls Try.prog 37 #[.pointer (some ⟨c, 0, none⟩), .int .i64 N] w (RbSay (Tr.getR t N) (Tr.getB t N) w) := by
  obtain ⟨vb, vn, L, h1, h2⟩ := h.r
  exact get_any N w h1
theorem bo_page (N : Int) (hN : -1000 ≤ N ∧ N ≤ 1000) (h : Bo x w b c t) : Calls Try.prog 36 #[.pointer (some ⟨c, 0, none⟩), .int .i64 N] w (PgSay (Tr.pageL t N) w) := by
  obtain ⟨vb, vn, L, h1, h2⟩ := h.r
  exact rpage_any N hN w h1 (by have := h2.len; omega) h.p.inv
end
set_option maxHeartbeats 8000000 in
set_option maxRecDepth 100000 in
theorem alike_any {x : World} {b c : Nat} {t : Tr.T} (w : World) (h : Bo x w b c t) : Calls Try.prog 12 #[.pointer (some ⟨b, 0, none⟩), .pointer (some ⟨c, 0, none⟩)] w (YesH w) := by
  have HOKT := Lib.hid h.p.at_.ok
  have HB : Hid (∀ y, Below w.heap.size w y → Bo x y b c t) := fun y hy => h.next hy
  have HRF : Hid (∀ z, Below w.heap.size w z → Calls Try.prog 14 #[.pointer (some ⟨b, 0, none⟩)] z (ToSay (Tr.refs t) z)) := fun z hz => prefs_any z (HB.out z hz).p.at_
  have HRR : Hid (∀ z, Below w.heap.size w z → Calls Try.prog 30 #[.pointer (some ⟨c, 0, none⟩)] z (ToSay (Tr.refs t) z)) := fun z hz => bo_refs (HB.out z hz)
  have HDI : Hid (∀ z, Below w.heap.size w z → Calls Try.prog 20 #[.pointer (some ⟨b, 0, none⟩)] z (DiSay t z)) := fun z hz => pdirty_any z (HB.out z hz).p.at_
  have HDR : Hid (∀ z, Below w.heap.size w z → Calls Try.prog 31 #[.pointer (some ⟨c, 0, none⟩)] z (DiSay t z)) := fun z hz => bo_dirty (HB.out z hz)
  have HMP : Hid (∀ z, Below w.heap.size w z → Calls Try.prog 18 #[.pointer (some ⟨b, 0, none⟩)] z fun e w' => e = .returned (.int .i64 (Tr.mapped t : Int)) ∧ Hid (Below z.heap.size z w')) := fun z hz => pmapped_any z (HB.out z hz).p.at_
  have HMR : Hid (∀ z, Below w.heap.size w z → Calls Try.prog 32 #[.pointer (some ⟨c, 0, none⟩)] z fun e w' => e = .returned (.int .i64 (Tr.mapped t : Int)) ∧ Hid (Below z.heap.size z w')) := fun z hz => bo_mapped (HB.out z hz)
  have HND : Hid (∀ z (N : Int), Below w.heap.size w z → Calls Try.prog 23 #[.pointer (some ⟨b, 0, none⟩), .int .i64 N] z (RbSay (Tr.nodeR t N) (Tr.nodeB t N) z)) := fun z N hz => pnode_any N z (HB.out z hz).p.at_
  have HNR : Hid (∀ z (N : Int), Below w.heap.size w z → Calls Try.prog 35 #[.pointer (some ⟨c, 0, none⟩), .int .i64 N] z (RbSay (Tr.nodeR t N) (Tr.nodeB t N) z)) := fun z N hz => bo_node N (HB.out z hz)
  have HPG : Hid (∀ z (N : Int), Below w.heap.size w z → Calls Try.prog 25 #[.pointer (some ⟨b, 0, none⟩), .int .i64 N] z (PgSay (Tr.pageL t N) z)) := fun z N hz => ppage_any N z (HB.out z hz).p.at_
  have HPR : Hid (∀ z (N : Int), -1000 ≤ N ∧ N ≤ 1000 → Below w.heap.size w z → Calls Try.prog 36 #[.pointer (some ⟨c, 0, none⟩), .int .i64 N] z (PgSay (Tr.pageL t N) z)) := fun z N hN hz => bo_page N hN (HB.out z hz)
  have HGT : Hid (∀ z (N : Int), Below w.heap.size w z → Calls Try.prog 17 #[.pointer (some ⟨b, 0, none⟩), .int .i64 N] z (RbSay (Tr.getR t N) (Tr.getB t N) z)) := fun z N hz => pget_any N z (HB.out z hz).p.at_
  have HGR : Hid (∀ z (N : Int), Below w.heap.size w z → Calls Try.prog 37 #[.pointer (some ⟨c, 0, none⟩), .int .i64 N] z (RbSay (Tr.getR t N) (Tr.getB t N) z)) := fun z N hz => bo_get N (HB.out z hz)
  have HRO : Hid (∀ N : Int, Pg.Ok (Tr.nodeR t N)) := fun j => by
    unfold Tr.nodeR
    split
    · exact nr_ok HOKT.out _
    · exact pg_zr
  have HGO : Hid (∀ N : Int, Pg.Ok (Tr.getR t N)) := fun j => by
    unfold Tr.getR
    split
    · exact HOKT.out.1 _
    · exact pg_zr
  have HSR : Hid (∀ z B C u v, Fl B 33 33 z u ((Tr.refs t).map rfA) → Fl C 33 33 z v ((Tr.refs t).map rfA) → Calls Try.prog 26 #[u, v] z (BoSay true z)) := fun z B C u v hu hv => by
    have q := samerefs_any (refs_ok HOKT.out) (refs_ok HOKT.out) (by have := refs_le t; omega) z hu hv
    rw [decide_eq_true rfl] at q
    exact q
  have HSI : Hid (∀ z B C u v, IxO B z u (Tr.dirtyL t) → IxO C z v (Tr.dirtyL t) → Calls Try.prog 28 #[u, v] z (BoSay true z)) := fun z B C u v hu hv => by
    have q := sameints_any (by have := Tr.dirtyL_le t; omega) z hu hv
    rw [decide_eq_true rfl] at q
    exact q
  have HSP : Hid (∀ z B v, Fl B 33 33 z v ((Tr.refs t).map rfA) → Calls Try.prog 33 #[v] z fun r w' => r = .returned (.tuple #[]) ∧ Sp v z w') := fun z B v hv => spoilrf_any z hv (by have := refs_le t; omega)
  have HSQ : Hid (∀ z B v, IxO B z v (Tr.dirtyL t) → Calls Try.prog 34 #[v] z fun r w' => r = .returned (.tuple #[]) ∧ Sp v z w') := fun z B v hv => spoilix_any z hv (by have := Tr.dirtyL_le t; omega)
  obtain ⟨Z, hz0⟩ := zfk
  have HZS := Lib.hid hz0.size
  have hz := (zero_of_info hz0.zero).1
  have hzn : ¬ Z = #[] := fun h => by have := HZS.out; rw [h] at this; simp at this
  unfold ToSay at HRF HRR
  unfold DiSay at HDI HDR
  unfold BoSay at HSR HSI
  have HPGO : Hid (∀ N : Int, Pg.OkA (Tr.pageL t N)) := fun N => Tr.page_ok HOKT.out N
  obtain ⟨mq, hmq⟩ : ∃ m, Tr.mapped t = m := ⟨_, rfl⟩
  rw [hmq] at HMP HMR
  have hself : ((mq : Int) == (mq : Int)) = true := by simp
  have D0 : Hid (Below w.heap.size w w) := Below.refl _ w
  clear h HB HOKT hmq
  go_enter Try.func12, Try.ntmps12
  go_wp2_with (first
    | (go_at_call 14; with_reducible refine (HRF.out _ D0.out).mono ?_; rintro e1 w1 ⟨v1, rfl, F1, B1⟩)
    | (go_at_call 20; with_reducible refine (HDI.out _ B1.out).mono ?_; rintro e2 w2 ⟨v2, rfl, I2, B2⟩; have D2 := Lib.hid (B1.out.trans (B2.out.mono B1.out.size)); have F2 := Lib.hid (F1.out.old B2.out))
    | (go_at_call 30; with_reducible refine (HRR.out _ D2.out).mono ?_; rintro e3 w3 ⟨v3, rfl, F3, B3⟩; have D3 := Lib.hid (D2.out.trans (B3.out.mono D2.out.size)); have G3 := Lib.hid (F2.out.old B3.out); have I3 := Lib.hid (I2.out.old B3.out))
    | (go_at_call 26; with_reducible refine (HSR.out _ _ _ _ _ G3.out F3.out).mono ?_; rintro e4 w4 ⟨rfl, B4⟩; have D4 := Lib.hid (D3.out.trans (B4.out.mono D3.out.size)); have G4 := Lib.hid (G3.out.old B4.out); have I4 := Lib.hid (I3.out.old B4.out))
    | (go_at_call 31; with_reducible refine (HDR.out _ D4.out).mono ?_; rintro e5 w5 ⟨v5, rfl, J5, B5⟩; have D5 := Lib.hid (D4.out.trans (B5.out.mono D4.out.size)); have G5 := Lib.hid (G4.out.old B5.out); have I5 := Lib.hid (I4.out.old B5.out))
    | (go_at_call 28; with_reducible refine (HSI.out _ _ _ _ _ I5.out J5.out).mono ?_; rintro e6 w6 ⟨rfl, B6⟩; have D6 := Lib.hid (D5.out.trans (B6.out.mono D5.out.size)); have G6 := Lib.hid (G5.out.old B6.out); have I6 := Lib.hid (I5.out.old B6.out))
    | (go_at_call 18; with_reducible refine (HMP.out _ D6.out).mono ?_; rintro e7 w7 ⟨rfl, B7⟩; have D7 := Lib.hid (D6.out.trans (B7.out.mono D6.out.size)); have G7 := Lib.hid (G6.out.old B7.out); have I7 := Lib.hid (I6.out.old B7.out))
    | (go_at_call 32; with_reducible refine (HMR.out _ D7.out).mono ?_; rintro e8 w8 ⟨rfl, B8⟩; have D8 := Lib.hid (D7.out.trans (B8.out.mono D7.out.size)); have G8 := Lib.hid (G7.out.old B8.out); have I8 := Lib.hid (I7.out.old B8.out))
    | (go_at_call 33; with_reducible refine (HSP.out _ _ _ G8.out).mono ?_; rintro e9 w9 ⟨rfl, S9⟩; have D9 := Lib.hid (S9.below D8.out D8.out.size (fun g hg => (G8.out.own_lo g hg).1)); have I9 := Lib.hid (S9.ixo I8.out (fun g hg => (F1.out.own_lo g hg).2)))
    | (go_at_call 34; with_reducible refine (HSQ.out _ _ _ I9.out).mono ?_; rintro e10 w10 ⟨rfl, S10⟩; have D10 := Lib.hid (S10.below D9.out D9.out.size (fun g hg => Nat.le_trans B1.out.size (I9.out.own_lo g hg).1))))
  clear D0 B1 D2 D3 D4 D5 D6 D7 D8 D9 B2 B3 B4 B5 B6 B7 B8 F1 F2 F3 G3 G4 G5 G6 G7 G8 I2 I3 I4 I5 I6 I7 I8 I9 J5 S9 S10 HDI HDR HMP HMR HSI HSP HSQ hself
  go_loopw [7] (fun v7 wr => ∃ n : Int, -1 ≤ n ∧ n ≤ 10 ∧ v7 = .int .i64 n ∧ Hid (Below w.heap.size w wr)) (fun v7 _ => (10 - intOf v7).toNat)
  case atStart => exact ⟨-1, by omega, by omega, rfl, D10⟩
  case round =>
    clear D10
    obtain ⟨n, h1, h2, rfl, HP⟩ := hrel
    by_cases hlt : n ≤ 9
    · have HN1 := Lib.hid (fun z h => HND.out z n h)
      have HN2 := Lib.hid (fun z h => HNR.out z n h)
      have HP1 := Lib.hid (fun z h => HPG.out z n h)
      have HP2 := Lib.hid (fun z h => HPR.out z n (by omega) h)
      obtain ⟨R, Z', eA, e33, hk, _⟩ := rfz (HRO.out n)
      have HRS := Lib.hid hk.size
      have HR1 := Lib.hid hk.one
      have hsR := row_size Try.sizeRef33 HRS
      have heqr : ∀ z, (Op.equalIn 10000 33 (.agg R) (.agg R)).run Try.prog z = .ok true z := fun z => by
        have q := rf_eqs (HRO.out n) (HRO.out n) z
        rw [decide_eq_true rfl, eA] at q
        exact q
      obtain ⟨A, RA, eP, _⟩ := pgk (HPGO.out n)
      have heqp : ∀ z, (Op.equalIn 10000 36 (.agg A) (.agg A)).run Try.prog z = .ok true z := fun z => by
        have q := page_eq (HPGO.out n) (HPGO.out n) z
        rw [decide_eq_true rfl, eP] at q
        exact q
      unfold RbSay at HN1 HN2
      unfold PgSay at HP1 HP2
      rw [e33] at HN1 HN2
      rw [eP] at HP1 HP2
      generalize Tr.nodeB t n = nb at *
      have hbb : (nb != nb) = false := by simp
      clear HND HNR HPG HPR HGT HGR hk eA e33 eP HRF HRR HSR HRO HGO HPGO
      go_wp2_with (first
        | (go_at_call 23; with_reducible refine (HN1.out _ HP.out).mono ?_; rintro e10 w10 ⟨rfl, B10⟩)
        | ((with_reducible refine row_store _ _ _ w10.heap.size _ _ _ ?_ ?_ (heap_alloc_new w10 _) hsR ?_ HR1.out ?_); (exact rfl); (exact rfl); (rw [HRS.out, HZS.out]); intro w11 G11 ch11; have C11 := Lib.hid (ch11.below (B10.out.alloc B10.out.size _) B10.out.size); have P11 := Lib.hid (HP.out.trans (C11.out.mono HP.out.size)))
        | (go_at_call 35; with_reducible refine (HN2.out _ P11.out).mono ?_; rintro e12 w12 ⟨rfl, B12⟩)
        | ((with_reducible refine row_store _ _ _ w12.heap.size _ _ _ ?_ ?_ (heap_alloc_new w12 _) hsR ?_ HR1.out ?_); (exact rfl); (exact rfl); (rw [HRS.out, HZS.out]); intro w13 G13 ch13; have C13 := Lib.hid (ch13.below (B12.out.alloc B12.out.size _) B12.out.size); have P13 := Lib.hid (P11.out.trans (C13.out.mono P11.out.size)); have H13 := Lib.hid (below_kept C13.out G11.out))
        | (go_at_call 25; with_reducible refine (HP1.out _ P13.out).mono ?_; rintro e14 w14 ⟨rfl, B14⟩; have P14 := Lib.hid (P13.out.trans (B14.out.mono P13.out.size)); have G14 := Lib.hid (below_kept B14.out G13.out); have H14 := Lib.hid (below_kept B14.out H13.out))
        | (go_at_call 36; with_reducible refine (HP2.out _ P14.out).mono ?_; rintro e15 w15 ⟨rfl, B15⟩; have P15 := Lib.hid (P14.out.trans (B15.out.mono P14.out.size)))
        | ((with_reducible refine row_load_g _ _ w10.heap.size _ _ _ _ ?_ ?_ H13.out Try.underlying33 ?_ hsR ?_); (exact rfl); (exact rfl); (exact rfl))
        | ((with_reducible refine row_load_g _ _ w12.heap.size _ _ _ _ ?_ ?_ G13.out Try.underlying33 ?_ hsR ?_); (exact rfl); (exact rfl); (exact rfl)))
      exact ⟨⟨n + 1, by omega, by omega, by go_num, P15⟩, by simp [intOf]; omega⟩
    · clear HND HNR HPG HPR HRO HPGO
      go_wp2
      go_loopw [12] (fun v12 z => ∃ n : Int, -1 ≤ n ∧ n ≤ 65 ∧ v12 = .int .i64 n ∧ Hid (Below w.heap.size w z)) (fun v12 _ => (65 - intOf v12).toNat)
      case atStart => exact ⟨-1, by omega, by omega, rfl, HP⟩
      case round =>
        clear HP hlt h1 h2
        obtain ⟨m, h1, h2, rfl, HP⟩ := hrel
        by_cases hlt : m ≤ 64
        · have HN1 := Lib.hid (fun z h => HGT.out z m h)
          have HN2 := Lib.hid (fun z h => HGR.out z m h)
          obtain ⟨R, Z', eA, e33, hk, _⟩ := rfz (HGO.out m)
          have HRS := Lib.hid hk.size
          have HR1 := Lib.hid hk.one
          have hsR := row_size Try.sizeRef33 HRS
          have heqr : ∀ z, (Op.equalIn 10000 33 (.agg R) (.agg R)).run Try.prog z = .ok true z := fun z => by
            have q := rf_eqs (HGO.out m) (HGO.out m) z
            rw [decide_eq_true rfl, eA] at q
            exact q
          unfold RbSay at HN1 HN2
          rw [e33] at HN1 HN2
          generalize Tr.getB t m = nb at *
          have hbb : (nb != nb) = false := by simp
          clear HGT HGR hk eA e33 HRF HRR HSR HGO
          go_wp2_with (first
            | (go_at_call 17; with_reducible refine (HN1.out _ HP.out).mono ?_; rintro e10 w10 ⟨rfl, B10⟩)
            | ((with_reducible refine row_store _ _ _ w10.heap.size _ _ _ ?_ ?_ (heap_alloc_new w10 _) hsR ?_ HR1.out ?_); (exact rfl); (exact rfl); (rw [HRS.out, HZS.out]); intro w11 G11 ch11; have C11 := Lib.hid (ch11.below (B10.out.alloc B10.out.size _) B10.out.size); have P11 := Lib.hid (HP.out.trans (C11.out.mono HP.out.size)))
            | (go_at_call 37; with_reducible refine (HN2.out _ P11.out).mono ?_; rintro e12 w12 ⟨rfl, B12⟩)
            | ((with_reducible refine row_store _ _ _ w12.heap.size _ _ _ ?_ ?_ (heap_alloc_new w12 _) hsR ?_ HR1.out ?_); (exact rfl); (exact rfl); (rw [HRS.out, HZS.out]); intro w13 G13 ch13; have C13 := Lib.hid (ch13.below (B12.out.alloc B12.out.size _) B12.out.size); have P13 := Lib.hid (P11.out.trans (C13.out.mono P11.out.size)); have H13 := Lib.hid (below_kept C13.out G11.out))
            | ((with_reducible refine row_load_g _ _ w10.heap.size _ _ _ _ ?_ ?_ H13.out Try.underlying33 ?_ hsR ?_); (exact rfl); (exact rfl); (exact rfl))
            | ((with_reducible refine row_load_g _ _ w12.heap.size _ _ _ _ ?_ ?_ G13.out Try.underlying33 ?_ hsR ?_); (exact rfl); (exact rfl); (exact rfl)))
          exact ⟨⟨m + 1, by omega, by omega, by go_num, P13⟩, by simp [intOf]; omega⟩
        · clear HGT HGR HGO
          go_wp2_with (first
            | (go_at_call 14; with_reducible refine (HRF.out _ HP.out).mono ?_; rintro e16 w16 ⟨v16, rfl, F16, B16⟩; have P16 := Lib.hid (HP.out.trans (B16.out.mono HP.out.size)))
            | (go_at_call 30; with_reducible refine (HRR.out _ P16.out).mono ?_; rintro e17 w17 ⟨v17, rfl, F17, B17⟩; have P17 := Lib.hid (P16.out.trans (B17.out.mono P16.out.size)); have G17 := Lib.hid (F16.out.old B17.out))
            | (go_at_call 26; with_reducible refine (HSR.out _ _ _ _ _ G17.out F17.out).mono ?_; rintro e18 w18 ⟨rfl, B18⟩; have P18 := Lib.hid (P17.out.trans (B18.out.mono P17.out.size))))
          go_ret
          exact ⟨rfl, P18⟩
end Go.Proofs.Ytfeemeddhhgigaa

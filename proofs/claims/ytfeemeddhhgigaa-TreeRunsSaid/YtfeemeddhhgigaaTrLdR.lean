/-
  The reference's tree: contract: Load.
-/
import Derived.Test.YtfeemeddhhgigaaTrRa
namespace Go.Proofs.Ytfeemeddhhgigaa
open Go.RowKit

namespace Tr
open Pg (Rf zr zp)
/-- A leaf's blocks, as far as they are laid out of a page. -/
def lb (t : T) (m : Nat) (p : List Rf) (i : Nat) : Nat → Rf := fun k => if lf k = m + 1 ∧ k - 8 * m < i ∧ 0 < (p.getD (k - 8 * m) zr).1 then p.getD (k - 8 * m) zr else t.b k
theorem lb_zero (t : T) (m : Nat) (p : List Rf) : lb t m p 0 = t.b := by
  funext k
  unfold lb
  rw [if_neg (fun q => by omega)]
theorem lb_yes (t : T) (m : Nat) (p : List Rf) (i : Nat) (hi : i < 8) (hp : 0 < (p.getD i zr).1) : lb t m p (i + 1) = up (lb t m p i) (8 * m + i) (p.getD i zr) := by
  funext k
  by_cases e : k = 8 * m + i
  · rw [e, up_same]
    unfold lb
    rw [show 8 * m + i - 8 * m = i by omega, if_pos ⟨by unfold lf; omega, by omega, hp⟩]
  · rw [up_other _ _ _ _ e]
    unfold lb
    by_cases h1 : lf k = m + 1
    · have h2 : k - 8 * m ≠ i := by unfold lf at h1; omega
      by_cases h3 : k - 8 * m < i
      · by_cases h4 : 0 < (p.getD (k - 8 * m) zr).1
        · rw [if_pos ⟨h1, by omega, h4⟩, if_pos ⟨h1, h3, h4⟩]
        · rw [if_neg (fun q => h4 q.2.2), if_neg (fun q => h4 q.2.2)]
      · rw [if_neg (fun q => by omega), if_neg (fun q => by omega)]
    · rw [if_neg (fun q => h1 q.1), if_neg (fun q => h1 q.1)]
theorem lb_no (t : T) (m : Nat) (p : List Rf) (i : Nat) (hp : ¬ 0 < (p.getD i zr).1) : lb t m p (i + 1) = lb t m p i := by
  funext k
  unfold lb
  by_cases h1 : lf k = m + 1
  · by_cases h2 : k - 8 * m = i
    · rw [h2, if_neg (fun q => hp q.2.2), if_neg (fun q => hp q.2.2)]
    · by_cases h3 : k - 8 * m < i
      · by_cases h4 : 0 < (p.getD (k - 8 * m) zr).1
        · rw [if_pos ⟨h1, by omega, h4⟩, if_pos ⟨h1, h3, h4⟩]
        · rw [if_neg (fun q => h4 q.2.2), if_neg (fun q => h4 q.2.2)]
      · rw [if_neg (fun q => by omega), if_neg (fun q => by omega)]
  · rw [if_neg (fun q => h1 q.1), if_neg (fun q => h1 q.1)]
theorem lb_all (t : T) (m : Nat) (p : List Rf) : lb t m p 8 = loadB t (m + 1) p := by
  funext k
  unfold lb loadB
  rw [Nat.add_sub_cancel]
  by_cases h1 : lf k = m + 1
  · have h2 : k - 8 * m < 8 := by unfold lf at h1; omega
    by_cases h4 : 0 < (p.getD (k - 8 * m) zr).1
    · rw [if_pos ⟨h1, h2, h4⟩, if_pos ⟨h1, h4⟩]
    · rw [if_neg (fun q => h4 q.2.2), if_neg (fun q => h4 q.2)]
  · rw [if_neg (fun q => h1 q.1), if_neg (fun q => h1 q.1)]
def anyK (p : List Rf) (i : Nat) : Bool := (List.range i).any fun j => decide (0 < (p.getD j zr).1)
theorem anyK_succ (p : List Rf) (i : Nat) : anyK p (i + 1) = (anyK p i || decide (0 < (p.getD i zr).1)) := by
  unfold anyK
  rw [List.range_succ, List.any_append]
  simp
end Tr
theorem build_nd2 (r : Pg.Rf) (h : Pg.Ok r) : Try.prog.built 70 [(2, .agg (rfA r))] = some (Tr.nnA ⟨0, false, r⟩) := by
  have hl := cl_len h
  rw [built_of Try.zeroNd Try.placesNd, fill_step _ 2 _ 2 33 _ _ rfl (by show (cl r).toArray.size = 33; rw [List.size_toArray, hl]) (by rw [List.size_toArray, znd_len]; omega)]
  have hz := cl_len Pg.ok_zr
  unfold Instr.fill Tr.nnA rfA
  simp [ZNd, Value.cells, hz]
set_option maxHeartbeats 8000000 in
set_option maxRecDepth 100000 in
theorem rload_any {K b : Nat} {t : Tr.T} (N : Int) (p : List Pg.Rf) (hp : Pg.OkA p) (r : Pg.Rf) (hr : Pg.Ok r) (w : World) (h : RS K w b t) (hI : Tr.Inv t) :
    Calls Try.prog 44 #[.pointer (some ⟨b, 0, none⟩), .int .i64 N, PV p, .agg (rfA r)] w (SvSay K b (Tr.loadI t N p r) (Tr.loadE t N p r) w) := by
  have h9 := hI.off
  obtain ⟨vb, vn, L, hT, hL⟩ := h
  have hLl := hL.len
  have HT0 : Hid (∀ y, Below w.heap.size w y → RT K y b vb vn L t) := fun y hy => hT.old hy
  have HRS0 : Hid (∀ y, Below w.heap.size w y → RS K y b t) := fun y hy => ⟨vb, vn, L, hT.old hy, hL⟩
  have hE := Tr.loadE_if t N p r
  have hI0 : Tr.loadE t N p r ≠ 0 → Tr.loadI t N p r = t := fun e => by unfold Tr.loadI; rw [if_neg e]
  have hI1 : Tr.loadE t N p r = 0 → Tr.loadI t N p r = if N = 0 then Tr.saveT t 0 r else ⟨Tr.loadB t N.toNat p, Tr.up t.n N.toNat (some (some r))⟩ := fun e => by unfold Tr.loadI; rw [if_pos e]
  obtain ⟨R, Z, eA, _, hk, hz0⟩ := rfz hr
  have HRS := Lib.hid hk.size
  have HR1 := Lib.hid hk.one
  have hf0 := hk.first
  have hsR := row_size Try.sizeRef33 HRS
  have HZS := Lib.hid hz0.size
  have HZB := Lib.hid hz0.built
  have hz := (zero_of_info hz0.zero).1
  have hzn : ¬ Z = #[] := fun h => by have := HZS.out; rw [h] at this; simp at this
  obtain ⟨A, RA, eP, hkP⟩ := pgk hp
  have HAS := Lib.hid hkP.size
  have hA1 := hkP.one
  have HKP := Lib.hid hkP
  have hbw := lt_of_block hT.box
  have HBN : Hid (w.heap.size ≠ b) := by show _ ≠ _; omega
  have HBN1 : Hid (w.heap.size + 1 ≠ b) := by show _ ≠ _; omega
  rw [eP, eA]
  have B1 : Hid (Below w.heap.size w ((w.alloc (.cells A 36)).alloc (.cells R 33))) := ((Below.refl _ w).alloc (Nat.le_refl _) _).alloc (by simp) _
  have R1 : Hid (((w.alloc (.cells A 36)).alloc (.cells R 33)).heap[w.heap.size + 1]? = some (.cells R 33 (0, 0))) := by
    have := heap_alloc_new (w.alloc (.cells A 36)) (.cells R 33)
    rw [show (w.alloc (.cells A 36)).heap.size = w.heap.size + 1 by simp] at this
    exact this
  have A1 : Hid (((w.alloc (.cells A 36)).alloc (.cells R 33)).heap[w.heap.size]? = some (.cells A 36 (0, 0))) := (((Below.refl _ (w.alloc (.cells A 36))).alloc (Nat.le_refl _) _).block w.heap.size (by simp)).trans (heap_alloc_new w _)
  have c1 : ((w.alloc (.cells A 36)).alloc (.cells R 33)).cell? ⟨w.heap.size + 1, 0, none⟩ = some (.int .i64 r.1) := by rw [cell_of_row _ _ 0 _ _ _ R1.out]; exact hf0
  have hcas : (N < 0 ∨ (¬ N < 0 ∧ N > 8) ∨ (¬ N < 0 ∧ ¬ N > 8 ∧ r.1 < 1)) ∨ (¬ N < 0 ∧ ¬ N > 8 ∧ ¬ r.1 < 1) := by omega
  unfold SvSay
  rcases hcas with hbad | ⟨n0, n8, hr1⟩
  · have hE' : Tr.loadE t N p r = 7 := by
      rw [hE, if_pos]
      by_cases hin : Tr.inN N
      · rw [decide_eq_false (show ¬ 0 < r.1 by unfold Tr.inN at hin; omega), Bool.and_false]
      · rw [decide_eq_false hin, Bool.false_and]
    rw [hI0 (by rw [hE']; decide), hE']
    have HF := Lib.hid (HRS0.out _ B1.out)
    generalize r.1 = at_ at *
    clear hE hE' hI0 hI1 hI hT hk hz0 hkP eA eP HKP HT0 HRS0
    rcases hbad with c | ⟨c, d⟩ | ⟨c, d, e⟩
    · go_enter Try.func44, Try.ntmps44
      go_wp2
      go_ret
      exact ⟨rfl, HF, Lib.hid (only_of_below B1.out)⟩
    · go_enter Try.func44, Try.ntmps44
      go_wp2
      go_ret
      exact ⟨rfl, HF, Lib.hid (only_of_below B1.out)⟩
    · go_enter Try.func44, Try.ntmps44
      go_wp2
      go_ret
      exact ⟨rfl, HF, Lib.hid (only_of_below B1.out)⟩
  have hin : Tr.inN N := by unfold Tr.inN; omega
  have hpos : 0 < r.1 := by omega
  rw [decide_eq_true hin, decide_eq_true hpos, if_neg (by decide)] at hE
  obtain ⟨w1, hw1⟩ : ∃ y, y = (w.alloc (.cells A 36)).alloc (.cells R 33) := ⟨_, rfl⟩
  by_cases hN0 : N = 0
  · subst hN0
    rw [show (0 : Int).toNat = 0 from rfl, if_pos rfl] at hE
    rw [if_pos rfl] at hI1
    have HN : Hid (∀ y, Below w.heap.size w y → Calls Try.prog 35 #[.pointer (some ⟨b, 0, none⟩), .int .i64 0] y (RbSay (Tr.nodeR t 0) (Tr.nodeB t 0) y)) := fun y hy => node_any 0 y (hT.old hy) (by omega) h9
    have hro : Pg.Ok (Tr.nodeR t 0) := by
      unfold Tr.nodeR
      split
      · exact nr_ok hT.ok _
      · exact pg_zr
    have hnw := Tr.nw_root t
    obtain ⟨Q, Z2, eQ, e33, hkQ, hz2⟩ := rfz hro
    have hZ2 : Z2 = Z := by
      have q1 := hz2.built
      rw [hz0.built] at q1
      injection q1 with q1
      exact q1.symm
    subst hZ2
    have HQS := Lib.hid hkQ.size
    have HQ1 := Lib.hid hkQ.one
    have heqz := hkQ.eqz
    have hsQ := row_size Try.sizeRef33 HQS
    have HBU := Lib.hid (build_nd2 r hr)
    rw [eA] at HBU
    have HIS : Hid (∀ y, RT K y b vb vn L t → Calls Try.prog 64 #[.pointer (some ⟨b, 0, none⟩), .agg (Tr.nnA ⟨0, false, r⟩)] y (IsSay K b vb (Tr.wo L 0 ++ [⟨0, false, r⟩]) (Tr.saveT t 0 r) y)) := fun y hy => is_any ⟨0, false, r⟩ y hy (by omega) hL.ok hr (by show 0 < 1000; omega)
    have HGL := Lib.hid (hL.is (⟨0, false, r⟩ : Tr.Nn) hr (by show 0 < 9; omega))
    unfold RbSay at HN
    unfold IsSay at HIS
    rw [e33] at HN
    generalize Tr.nnA ⟨0, false, r⟩ = NA at *
    generalize Tr.saveT t 0 r = t' at *
    obtain ⟨nb, hnb⟩ : ∃ nb, Tr.nodeB t 0 = nb := ⟨_, rfl⟩
    rw [hnb] at HN hnw
    obtain ⟨nr0, hnr⟩ : ∃ nr0, Tr.nodeR t 0 = nr0 := ⟨_, rfl⟩
    rw [hnr] at heqz hnw
    have hw1' := hw1
    rw [← hw1] at B1 R1 A1
    clear hT hk hz0 hkP eA eP HKP hkQ hz2 eQ e33 hro A1 hnb hnr hI hf0 hw1'
    by_cases hgood : nb = true ∧ nr0 = Pg.zr
    · obtain ⟨rfl, hzr⟩ := hgood
      have hE' : Tr.loadE t 0 p r = 0 := by rw [hE, if_neg (by rw [hnw.2 ⟨rfl, hzr⟩]; decide)]
      rw [hI1 hE', hE']
      rw [decide_eq_true hzr] at heqz
      clear hE hE' hI0 hI1 hnw
      go_enter Try.func44, Try.ntmps44
      go_wp2_with (first
        | (go_at_call 35; rw [← hw1]; clear hw1 c1; refine (HN.out _ B1.out).mono ?_; rintro e2 w2 ⟨rfl, B2⟩)
        | ((with_reducible refine row_store _ _ _ w2.heap.size _ _ _ ?_ ?_ (heap_alloc_new w2 _) hsQ ?_ HQ1.out ?_); (exact rfl); (exact rfl); (rw [HQS.out, HZS.out]); intro w3 G3 ch3; have B3 := Lib.hid (ch3.below (B2.out.alloc B2.out.size _) B2.out.size); have C3 := Lib.hid (B1.out.trans (B3.out.mono B1.out.size)); have R3 := Lib.hid (below_kept B3.out R1.out); have T3 := Lib.hid (HT0.out _ C3.out))
        | ((with_reducible refine row_load_g _ _ w2.heap.size _ _ _ _ ?_ ?_ G3.out Try.underlying33 ?_ hsQ ?_); (exact rfl); (exact rfl); (exact rfl))
        | ((with_reducible refine row_build0_g _ _ ?_ HZB.out ?_); (exact rfl))
        | ((with_reducible refine row_load _ _ (w.heap.size + 1) _ _ _ _ ?_ R3.out Try.underlying33 ?_ hsR ?_); (exact rfl); (exact rfl))
        | ((with_reducible refine row_build1 _ _ _ _ _ ?_ HBU.out ?_); (exact rfl))
        | (go_at_call 64; refine (HIS.out _ T3.out).mono ?_; rintro e5 w5 ⟨vn5, rfl, T5, O5⟩))
      go_ret
      exact ⟨rfl, Lib.hid ⟨_, _, _, T5.out, HGL.out⟩, Lib.hid ((only_of_below C3.out).trans O5.out)⟩
    · have hE' : Tr.loadE t 0 p r = 16 := by
        rw [hE, if_pos]
        rw [← Bool.not_eq_true]
        exact fun q => hgood (hnw.1 q)
      rw [hI0 (by rw [hE']; decide), hE']
      clear hE hE' hI0 hI1 hnw
      cases nb with
      | false =>
        go_enter Try.func44, Try.ntmps44
        go_wp2_with (first
          | (go_at_call 35; rw [← hw1]; clear hw1 c1; refine (HN.out _ B1.out).mono ?_; rintro e2 w2 ⟨rfl, B2⟩)
          | ((with_reducible refine row_store _ _ _ w2.heap.size _ _ _ ?_ ?_ (heap_alloc_new w2 _) hsQ ?_ HQ1.out ?_); (exact rfl); (exact rfl); (rw [HQS.out, HZS.out]); intro w3 G3 ch3; have B3 := Lib.hid (ch3.below (B2.out.alloc B2.out.size _) B2.out.size); have C3 := Lib.hid (B1.out.trans (B3.out.mono B1.out.size))))
        go_ret
        exact ⟨rfl, Lib.hid (HRS0.out _ C3.out), Lib.hid (only_of_below C3.out)⟩
      | true =>
        have hzr : ¬ nr0 = Pg.zr := fun e => hgood ⟨rfl, e⟩
        rw [decide_eq_false hzr] at heqz
        go_enter Try.func44, Try.ntmps44
        go_wp2_with (first
          | (go_at_call 35; rw [← hw1]; clear hw1 c1; refine (HN.out _ B1.out).mono ?_; rintro e2 w2 ⟨rfl, B2⟩)
          | ((with_reducible refine row_store _ _ _ w2.heap.size _ _ _ ?_ ?_ (heap_alloc_new w2 _) hsQ ?_ HQ1.out ?_); (exact rfl); (exact rfl); (rw [HQS.out, HZS.out]); intro w3 G3 ch3; have B3 := Lib.hid (ch3.below (B2.out.alloc B2.out.size _) B2.out.size); have C3 := Lib.hid (B1.out.trans (B3.out.mono B1.out.size)))
          | ((with_reducible refine row_load_g _ _ w2.heap.size _ _ _ _ ?_ ?_ G3.out Try.underlying33 ?_ hsQ ?_); (exact rfl); (exact rfl); (exact rfl))
          | ((with_reducible refine row_build0_g _ _ ?_ HZB.out ?_); (exact rfl)))
        go_ret
        exact ⟨rfl, Lib.hid (HRS0.out _ C3.out), Lib.hid (only_of_below C3.out)⟩
  have hne : (N == 0) = false := by simp [hN0]
  obtain ⟨m, hm, hm8⟩ : ∃ m : Nat, N = ((m + 1 : Nat) : Int) ∧ m < 8 := ⟨N.toNat - 1, by omega, by omega⟩
  have hNt : N.toNat = m + 1 := by omega
  rw [hNt, if_neg hN0] at hE
  rw [hNt, if_neg hN0] at hI1
  have HNI : Hid (∀ y, Below w.heap.size w y → Calls Try.prog 56 #[.pointer (some ⟨b, 0, none⟩), .int .i64 N] y fun e w' => e = .returned (.int .i64 (Tr.ndI L N)) ∧ Hid (Below y.heap.size y w')) := fun y hy => nidx_any N y (hT.old hy) (by omega)
  have hnl := Tr.nw_leaf t (m + 1) (by omega)
  rw [← hw1] at B1 R1 A1
  rcases Tr.ndI_cases hT.rep h9 N with ⟨h1, h2⟩ | ⟨_, j, hj, h2, h3⟩
  · have hnone : t.n (m + 1) = none := by
      rw [hNt] at h1
      rcases h1 with q | q
      · omega
      · exact q
    rw [hnl.2 hnone, if_neg (by decide)] at hE
    rw [h2] at HNI
    have HAK := Lib.hid (Tr.anyK_succ p)
    have HAK0 : Hid (Tr.anyK p 0 = false) := rfl
    have HAK8 : Hid (Tr.anyK p 8 = Tr.anyP p) := rfl
    have HCE : Hid (∀ y : World, y.heap[w.heap.size]? = some (.cells A 36 (0, 0)) → ∀ i, i < 8 → y.cell? ⟨w.heap.size, i * 33, none⟩ = some (.int .i64 (p.getD i Pg.zr).1)) := fun y hy i hi => by
      have q := HKP.out.rng i hi y w.heap.size _ hy 0
      have e1 : (RA i).toList[0]? = some (.int .i64 (p.getD i Pg.zr).1) := by
        have e2 := HKP.out.val i hi
        have e6 : R33 (p.getD i Pg.zr) = .agg (rfA (p.getD i Pg.zr)) := rfl
        rw [e6] at e2
        injection e2 with e2
        rw [← e2]
        rfl
      exact q _ e1
    have HRT2 : Hid (∀ y vb', RT K y b vb' vn L ⟨Tr.lb t m p 8, t.n⟩ → Calls Try.prog 64 #[.pointer (some ⟨b, 0, none⟩), .agg (.int .i64 N :: .bool false :: cl r).toArray] y (IsSay K b vb' (Tr.wo L (m + 1) ++ [⟨m + 1, false, r⟩]) ⟨Tr.loadB t (m + 1) p, Tr.up t.n (m + 1) (some (some r))⟩ y)) := fun y vb' hy => by
      have q := is_any (⟨m + 1, false, r⟩ : Tr.Nn) y hy (by omega) hL.ok hr (by show m + 1 < 1000; omega)
      have e5 : Tr.nnA ⟨m + 1, false, r⟩ = (.int .i64 N :: .bool false :: cl r).toArray := by
        unfold Tr.nnA
        show (Value.int .i64 ((m + 1 : Nat) : Int) :: _ : List Value).toArray = _
        rw [← hm]
      rw [e5] at q
      have e7 : (⟨(⟨Tr.lb t m p 8, t.n⟩ : Tr.T).b, Tr.up (⟨Tr.lb t m p 8, t.n⟩ : Tr.T).n (m + 1) (⟨m + 1, false, r⟩ : Tr.Nn).nd⟩ : Tr.T) = ⟨Tr.loadB t (m + 1) p, Tr.up t.n (m + 1) (some (some r))⟩ := by
        rw [← Tr.lb_all t m p]; rfl
      rw [← e7]
      exact q
    have HGL := Lib.hid (hL.is (⟨m + 1, false, r⟩ : Tr.Nn) hr (by show m + 1 < 9; omega))
    have HBU := Lib.hid (build_ndr N r hr)
    have hcr : (cl r).toArray = R := eA
    rw [hcr] at HBU
    have HPU : Hid (∀ y vb' i, i < 8 → 0 < (p.getD i Pg.zr).1 → RT K y b vb' vn L ⟨Tr.lb t m p i, t.n⟩ → Calls Try.prog 58 #[.pointer (some ⟨b, 0, none⟩), .int .i64 ((8 * m + i : Nat) : Int), .agg (RA i)] y (PuSay K b vn L ⟨Tr.lb t m p (i + 1), t.n⟩ y)) := fun y vb' i hi hpp hy => by
      have q := rput_any (8 * m + i) (p.getD i Pg.zr) (by omega) (Pg.ok_at hp i) y hy
      have e2 := HKP.out.val i hi
      have e6 : R33 (p.getD i Pg.zr) = .agg (cl (p.getD i Pg.zr)).toArray := rfl
      rw [e6] at e2
      injection e2 with e2
      rw [e2] at q
      have e7 : (⟨Tr.up (⟨Tr.lb t m p i, t.n⟩ : Tr.T).b (8 * m + i) (Tr.pR (p.getD i Pg.zr)), (⟨Tr.lb t m p i, t.n⟩ : Tr.T).n⟩ : Tr.T) = ⟨Tr.lb t m p (i + 1), t.n⟩ := by
        have e8 : Tr.pR (p.getD i Pg.zr) = p.getD i Pg.zr := if_pos hpp
        rw [Tr.lb_yes t m p i hi hpp, e8]
      rw [e7] at q
      exact q
    have HLN : Hid (∀ i, ¬ 0 < (p.getD i Pg.zr).1 → Tr.lb t m p (i + 1) = Tr.lb t m p i) := fun i hpp => Tr.lb_no t m p i hpp
    have HL00 : Hid (Tr.lb t m p 0 = t.b) := Tr.lb_zero t m p
    have HARG : Hid (∀ y : World, y.heap[w.heap.size]? = some (.cells A 36 (0, 0)) → ∀ i, i < 8 → y.rangeAt w.heap.size (i * 33) (RA i).toList) := fun y hy i hi => HKP.out.rng i hi y w.heap.size _ hy
    have HSZ : Hid (∀ i, i < 8 → (RA i).size = 33) := HKP.out.rsize
    obtain ⟨NA, hNA⟩ : ∃ NA, (.int .i64 N :: .bool false :: cl r : List Value).toArray = NA := ⟨_, rfl⟩
    have hNA2 : (.int .i64 N :: .bool false :: R.toList : List Value).toArray = NA := by rw [← hNA, ← hcr]
    rw [hNA] at HRT2 HBU
    have hn8 : ¬ N > 8 := n8
    obtain ⟨f, hf⟩ : ∃ f : Nat, f = 8 * m := ⟨_, rfl⟩
    have hwa : IntKind.i64.wrap (N - 1) = (m : Int) := by rw [IntWalk.i64_in _ ⟨by omega, by omega⟩]; omega
    have hwb : IntKind.i64.wrap (8 * (m : Int)) = (f : Int) := by rw [IntWalk.i64_in _ ⟨by omega, by omega⟩]; omega
    have HFI : Hid (f = 8 * m ∧ m < 8) := ⟨hf, hm8⟩
    rw [← hf] at HPU
    have hI1' := hI1
    unfold PuSay at HPU
    unfold IsSay at HRT2
    have hif : ¬ (N = 0) := hN0
    generalize (⟨Tr.loadB t (m + 1) p, Tr.up t.n (m + 1) (some (some r))⟩ : Tr.T) = t' at *
    have HT00 : Hid (∀ y, Below w.heap.size w y → RT K y b vb vn L ⟨Tr.lb t m p 0, t.n⟩) := fun y hy => by rw [HL00.out]; exact HT0.out y hy
    obtain ⟨EE, hEE⟩ : ∃ EE, Tr.loadE t N p r = EE := ⟨_, rfl⟩
    obtain ⟨TT, hTT⟩ : ∃ TT, Tr.loadI t N p r = TT := ⟨_, rfl⟩
    rw [hEE] at hE hI0 hI1 ⊢
    rw [hTT] at hI0 hI1 ⊢
    have hE2 : EE = if Tr.anyP p then 0 else 7 := hE
    clear hT hk hz0 hkP eA eP hL hI hf0 hE hI1' hnl hnone h1 h2 hm hm8 hNt hif hN0 hNA hNA2 hcr hf HL00 HT0 h9 hEE hTT hpos hin
    go_enter Try.func44, Try.ntmps44
    go_wp2_with (first
      | (go_at_call 56; rw [← hw1]; clear hw1 c1; refine (HNI.out _ B1.out).mono ?_; rintro e2 w2 ⟨rfl, B2⟩; have C2 := Lib.hid (B1.out.trans (B2.out.mono B1.out.size)); have R2 := Lib.hid (below_kept B2.out R1.out); have A2 := Lib.hid (below_kept B2.out A1.out)))
    have T2 := Lib.hid (HT00.out _ C2.out)
    clear B1 R1 A1 HNI HT00
    go_loopw [11, 12] (fun v11 v12 wr => wr = w2 ∧ ∃ i : Nat, i ≤ 8 ∧ v12 = .int .i64 i ∧ v11 = .bool (Tr.anyK p i)) (fun _ v12 _ => 8 - (intOf v12).toNat)
    case atStart => exact ⟨rfl, 0, by omega, rfl, by rw [HAK0.out]⟩
    case round =>
      obtain ⟨rfl, i, hi, rfl, rfl⟩ := hrel
      by_cases hlt : i < 8
      · have hi0 : 0 ≤ (i : Int) := by omega
        have hi1 : (i : Int) < 8 := by omega
        have d1 := HCE.out _ A2.out i hlt
        have HS := Lib.hid (HAK.out i)
        generalize (p.getD i Pg.zr).1 = x at *
        generalize Tr.anyK p i = q at *
        cases q with
        | true =>
          go_wp2
          exact ⟨⟨trivial, i + 1, by omega, by go_num, by rw [HS.out]; rfl⟩, by simp [intOf]; omega⟩
        | false =>
          by_cases hx : x > 0
          · rw [decide_eq_true (show 0 < x from hx)] at HS
            go_wp2
            exact ⟨⟨trivial, i + 1, by omega, by go_num, by rw [HS.out]; rfl⟩, by simp [intOf]; omega⟩
          · rw [decide_eq_false (show ¬ 0 < x from hx)] at HS
            go_wp2
            exact ⟨⟨trivial, i + 1, by omega, by go_num, by rw [HS.out]; rfl⟩, by simp [intOf]; omega⟩
      · have E : i = 8 := by omega
        subst E
        rw [HAK8.out, show ((8 : Nat) : Int) = 8 from rfl]
        cases hap : Tr.anyP p with
        | false =>
          rw [hap] at hE2
          have hE3 : EE = 7 := hE2
          have eT := hI0 (by rw [hE3]; decide)
          subst eT
          subst hE3
          clear hlt hE2 hI0 hI1 hap
          go_wp2
          go_ret
          exact ⟨rfl, Lib.hid (HRS0.out _ C2.out), Lib.hid (only_of_below C2.out)⟩
        | true =>
          rw [hap] at hE2
          have hE3 : EE = 0 := hE2
          have eT := hI1 hE3
          subst eT
          subst hE3
          clear hlt hE2 hI0 hI1 hap HAK HAK0 HAK8
          go_wp2
          go_loopw [13] (fun v13 z => ∃ i : Nat, i ≤ 8 ∧ v13 = .int .i64 i ∧ ∃ vb', Hid (RT K z b vb' vn L ⟨Tr.lb t m p i, t.n⟩) ∧ Hid (Only b wr z)) (fun v13 _ => 8 - (intOf v13).toNat)
          case atStart => exact ⟨0, by omega, rfl, vb, T2, Lib.hid (Only.refl _ _)⟩
          case round =>
            clear T2
            obtain ⟨i, hi, rfl, vb', HTI, HO⟩ := hrel
            have A3 := Lib.hid ((HO.out.block _ (lt_of_block A2.out) HBN.out).trans A2.out)
            have R3 := Lib.hid ((HO.out.block _ (lt_of_block R2.out) HBN1.out).trans R2.out)
            have C3 := Lib.hid ((only_of_below (g := b) C2.out).trans HO.out)
            by_cases hlt : i < 8
            · have hi0 : 0 ≤ (i : Int) := by omega
              have hi1 : (i : Int) < 8 := by omega
              have d1 := HCE.out _ A3.out i hlt
              have HR3 := Lib.hid (HARG.out _ A3.out i hlt)
              have hsx := row_size Try.sizeRef33 (HSZ.out i hlt)
              have HLN1 := Lib.hid (HLN.out i)
              have HPU1 := Lib.hid (fun hx => HPU.out _ vb' i hlt hx HTI.out)
              have q := HFI.out
              obtain ⟨k, hk⟩ : ∃ k, k = f + i := ⟨_, rfl⟩
              rw [← hk] at HPU1
              have hwi : IntKind.i64.wrap ((f : Int) + (i : Int)) = (k : Int) := by rw [IntWalk.i64_in _ ⟨by omega, by omega⟩]; omega
              clear q hk HPU HLN HCE HARG HSZ
              generalize (p.getD i Pg.zr).1 = x at *
              generalize RA i = X at *
              by_cases hx : x > 0
              · have HP2 := Lib.hid (HPU1.out hx)
                clear HPU1 HLN1
                go_wp2_with (first
                  | ((with_reducible refine rng_load_g _ _ _ _ _ _ ?_ ?_ HR3.out Try.underlying33 ?_ hsx ?_); (exact rfl); (exact rfl); (exact rfl))
                  | (go_at_call 58; refine (HP2.out).mono ?_; rintro e3 w3 ⟨vb3, rfl, T3, O3⟩))
                exact ⟨⟨i + 1, by omega, by go_num, vb3, T3, Lib.hid (HO.out.trans O3.out)⟩, by simp [intOf]; omega⟩
              · have HLe := Lib.hid (HLN1.out (by omega))
                clear HPU1 HLN1
                go_wp2
                exact ⟨⟨i + 1, by omega, by go_num, vb', by rw [HLe.out]; exact HTI, HO⟩, by simp [intOf]; omega⟩
            · have E : i = 8 := by omega
              subst E
              have HIS := Lib.hid (HRT2.out _ _ HTI.out)
              clear hlt HPU HLN HCE HARG HSZ HRT2 hwa hwb HFI
              go_wp2_with (first
                | ((with_reducible refine row_load _ _ _ _ _ _ _ ?_ R3.out Try.underlying33 ?_ hsR ?_); (exact rfl); (exact rfl))
                | ((with_reducible refine exec_row2 _ _ _ _ _ _ _ _ ?_ ?_ HBU.out ?_); (exact rfl); (exact rfl))
                | (go_at_call 64; refine (HIS.out).mono ?_; rintro e5 w5 ⟨vn5, rfl, T5, O5⟩))
              go_ret
              exact ⟨rfl, Lib.hid ⟨_, _, _, T5.out, HGL.out⟩, Lib.hid (C3.out.trans O5.out)⟩
  · have hsome : Tr.nwB t (m + 1) = false := by
      rw [← Bool.not_eq_true]
      intro q
      have e := hnl.1 q
      rw [hNt] at h3
      rw [e] at h3
      unfold Tr.Nn.nd at h3
      split at h3 <;> cases h3
    rw [hsome, if_pos rfl] at hE
    rw [hI0 (by rw [hE]; decide), hE]
    rw [h2] at HNI
    have hj0 : (j : Int) ≥ 0 := by omega
    clear hT hk hz0 hkP eA eP HKP A1 hI hf0 hE hI0 hI1 hnl hsome h3 h2 hm hm8 hNt
    go_enter Try.func44, Try.ntmps44
    go_wp2_with (first
      | (go_at_call 56; rw [← hw1]; clear hw1 c1; refine (HNI.out _ B1.out).mono ?_; rintro e2 w2 ⟨rfl, B2⟩; have C2 := Lib.hid (B1.out.trans (B2.out.mono B1.out.size))))
    go_ret
    exact ⟨rfl, Lib.hid (HRS0.out _ C2.out), Lib.hid (only_of_below C2.out)⟩
end Go.Proofs.Ytfeemeddhhgigaa

/-
  The reference's tree: contract: Refs.
-/
import Derived.Test.YtfeemeddhhgigaaTrSa
namespace Go.Proofs.Ytfeemeddhhgigaa
open Go.RowKit

def Tr.fr (t : Tr.T) (i : Nat) : List Pg.Rf := Tr.alv (Tr.nr (t.n i))
theorem Tr.fr_len (t : Tr.T) : ∀ n, (Tr.flat (Tr.fr t) n).length ≤ n
  | 0 => Nat.le_refl _
  | n + 1 => by
    have := Tr.fr_len t n
    rw [Tr.flat_succ, List.length_append]
    unfold Tr.fr Tr.alv at this ⊢
    split <;> simp <;> omega
def Tr.rl (t : Tr.T) : List Pg.Rf := (Tr.bl t).map (·.2) ++ Tr.flat (Tr.fr t) 9
theorem Tr.fr_succ (t : Tr.T) (j : Nat) : Tr.flat (Tr.fr t) (j + 1) = Tr.flat (Tr.fr t) j ++ Tr.alv (Tr.nr (t.n j)) := Tr.flat_succ _ _
theorem map_take_succ {α β : Type} (l : List α) (f : α → β) (i : Nat) (d : α) (h : i < l.length) : (l.take (i + 1)).map f = (l.take i).map f ++ [f (l.getD i d)] := by
  rw [List.take_add_one, List.map_append, List.getD_eq_getElem?_getD, List.getElem?_eq_getElem h]
  rfl
def RfsSay (t : Tr.T) (w : World) (e : Ending) (w' : World) : Prop := ∃ v, e = .returned v ∧ Hid (Fl w.heap.size 33 33 w' v ((Tr.rl t).map rfA)) ∧ Hid (Below w.heap.size w w')
set_option maxHeartbeats 4000000 in
set_option maxRecDepth 100000 in
theorem rrefs_any {K b : Nat} {vb vn : Value} {L : List Tr.Nn} {t : Tr.T} (w : World) (h : RT K w b vb vn L t) (hl : L.length ≤ 1000) (h9 : ∀ i, 9 ≤ i → t.n i = none) :
    Calls Try.prog 30 #[.pointer (some ⟨b, 0, none⟩)] w (RfsSay t w) := by
  obtain ⟨p, c, rfl⟩ := h.lenb
  have hle := Tr.bl_le t
  have HC : Hid (∀ y, Below w.heap.size w y → y.cell? ⟨b, 0, none⟩ = some (.slice p (Tr.bl t).length c)) := fun y hy => (h.old hy).c0
  have HM : Hid (∀ y i, Below w.heap.size w y → i < (Tr.bl t).length → ∃ q, p = some ⟨q, 0, none⟩ ∧ y.rangeAt q (i * 34 + 1) (rfA ((Tr.bl t).getD i (0, Pg.zr)).2).toList) := fun y i hy hi => by
    obtain ⟨q, c', e, hr⟩ := (h.old hy).mp i hi
    injection e with e _ _
    exact ⟨q, e, (mp_ref hr).2⟩
  have HOK : Hid (∀ i, i < (Tr.bl t).length → Pg.Ok ((Tr.bl t).getD i (0, Pg.zr)).2) := fun i hi => by
    have q := Tr.blr_ge (getD_mem' (Tr.bl t) i (0, Pg.zr) hi)
    rw [q.2.2.1]
    exact h.ok.1 _
  have HTS : Hid (∀ i, i < (Tr.bl t).length → ((Tr.bl t).take (i + 1)).map (·.2) = ((Tr.bl t).take i).map (·.2) ++ [((Tr.bl t).getD i (0, Pg.zr)).2]) := fun i hi => map_take_succ (Tr.bl t) (·.2) i (0, Pg.zr) hi
  have HEND : Hid (((Tr.bl t).take (Tr.bl t).length).map (·.2) ++ Tr.flat (Tr.fr t) 9 = Tr.rl t) := by show _ = _; rw [List.take_length]; rfl
  have HN : Hid (∀ y (j : Nat), j < 9 → Below w.heap.size w y → Calls Try.prog 35 #[.pointer (some ⟨b, 0, none⟩), .int .i64 (j : Int)] y (RbSay (Tr.nr (t.n j)) (Tr.cln (t.n j)) y)) := fun y j hj hy => by
    have q := node_any (j : Int) y (h.old hy) hl h9
    obtain ⟨hn1, hn2⟩ := Tr.node_of (u := t) j hj
    rw [hn1, hn2] at q
    exact q
  have HNO : Hid (∀ j, Pg.Ok (Tr.nr (t.n j))) := fun j => nr_ok h.ok j
  have HFL := Lib.hid (Tr.fr_len t)
  have HFS := Lib.hid (Tr.fr_succ t)
  have HTL : Hid (∀ i, i ≤ (Tr.bl t).length → (((Tr.bl t).take i).map (·.2)).length = i) := fun i hi => by rw [List.length_map, List.length_take]; omega
  obtain ⟨Z, hz0⟩ := zfk
  have HZS := Lib.hid hz0.size
  have hz := (zero_of_info hz0.zero).1
  have hzn : ¬ Z = #[] := fun h => by have := HZS.out; rw [h] at this; simp at this
  unfold RfsSay
  generalize Tr.rl t = RL at *
  clear h hl h9 hz0
  obtain ⟨n, hn⟩ : ∃ n, (Tr.bl t).length = n := ⟨_, rfl⟩
  rw [hn] at HC HM HOK HTS HEND HTL hle
  clear hn
  generalize Tr.bl t = B at *
  have c0 := HC.out w (Below.refl _ _)
  go_enter Try.func30, Try.ntmps30
  go_wp2
  go_loopw [3, 4] (fun v3 v4 wr => ∃ i : Nat, i ≤ n ∧ v4 = .int .i64 i ∧ Hid (Fl w.heap.size 33 33 wr v3 (((B.take i).map (·.2)).map rfA)) ∧ Hid (Below w.heap.size w wr)) (fun _ v4 _ => n - (intOf v4).toNat)
  case atStart => exact ⟨0, Nat.zero_le _, rfl, fl_nil _ _ _ _, Below.refl _ _⟩
  case round =>
    obtain ⟨i, hi, rfl, HF, HB⟩ := hrel
    have d0 := HC.out _ HB.out
    by_cases hlt : i < n
    · obtain ⟨q, hp, hr⟩ := HM.out _ i HB.out hlt
      subst hp
      have HR := Lib.hid hr
      have hi0 : 0 ≤ (i : Int) := by omega
      have hi1 : (i : Int) < (n : Int) := by omega
      have HOS := Lib.hid (rfa_size (HOK.out i hlt))
      have HO1 := Lib.hid (rfa_one (B.getD i (0, Pg.zr)).2)
      have hsO := row_size Try.sizeRef33 HOS
      have HST : Hid (((B.take (i + 1)).map (·.2)).map rfA = ((B.take i).map (·.2)).map rfA ++ [rfA (B.getD i (0, Pg.zr)).2]) := by show _ = _; rw [HTS.out i hlt, List.map_append]; rfl
      have HLN : Hid ((((B.take i).map (·.2)).map rfA).length = i) := by show _ = _; rw [List.length_map]; exact HTL.out i hi
      have hNl : i ≤ 100000 := by omega
      generalize rfA (B.getD i (0, Pg.zr)).2 = O at *
      generalize ((B.take i).map (·.2)).map rfA = M at *
      go_wp2_with (first
        | ((with_reducible refine rng_load _ _ _ _ _ _ ?_ HR.out Try.underlying33 ?_ hsO ?_); (exact rfl); (exact rfl))
        | ((with_reducible refine bs1_g _ _ _ O 33 40 Try.underlying40 Try.infoRf (rfa_size pg_zr) HOS.out ?_ ?_ _ ?_ ?_); (decide); (decide); (exact rfl))
        | (at_builtin; (with_reducible refine app_fl _ _ _ O 33 40 Try.underlying40 Try.infoRf (rfa_size pg_zr) HOS.out ?_ ?_ HO1.out _ _ w.heap.size _ M i ?_ ?_ HF.out HLN.out ?_ HB.out.size ?_); (decide); (decide); (exact rfl); (exact rfl); (exact hNl); intro q9 d9 y9 HF9 HT9 HG9; have B9 := Lib.hid ((HB.out.alloc HB.out.size _).grown HG9.out (by simp; have := HB.out.size; omega) (fun g hg => (HT9.out g hg).1))))
      exact ⟨⟨i + 1, by omega, by go_num, by rw [HST.out]; exact HF9, B9⟩, by simp [intOf]; omega⟩
    · have E : i = n := by omega
      subst E
      clear hlt
      have HTN := Lib.hid (HTL.out i (Nat.le_refl _))
      generalize (B.take i).map (·.2) = M at *
      go_wp2
      go_loopw [3, 5] (fun v3 v5 wr => ∃ j : Nat, j ≤ 9 ∧ v5 = .int .i64 j ∧ Hid (Fl w.heap.size 33 33 wr v3 ((M ++ Tr.flat (Tr.fr t) j).map rfA)) ∧ Hid (Below w.heap.size w wr)) (fun _ v5 _ => 9 - (intOf v5).toNat)
      case atStart => exact ⟨0, Nat.zero_le _, rfl, by rw [Tr.flat_zero, List.append_nil]; exact HF, HB⟩
      case round =>
        obtain ⟨j, hj, rfl, HF2, HB2⟩ := hrel
        by_cases hlt : j < 9
        · have hj0 : (j : Int) ≤ 8 := by omega
          have HNj := Lib.hid (HN.out _ j hlt HB2.out)
          have HST := Lib.hid (HFS.out j)
          have hrok := HNO.out j
          have hcl : 0 < (Tr.nr (t.n j)).1 → Tr.cln (t.n j) = true := by
            cases q : t.n j with
            | none => intro k; exact absurd k Tr.zr_no
            | some y =>
              cases y with
              | none => intro k; exact absurd k Tr.zr_no
              | some r => intro _; rfl
          obtain ⟨r, hr⟩ : ∃ r, Tr.nr (t.n j) = r := ⟨_, rfl⟩
          obtain ⟨bc, hbc⟩ : ∃ bc, Tr.cln (t.n j) = bc := ⟨_, rfl⟩
          rw [hr, hbc] at hcl HNj
          rw [hr] at HST hrok
          obtain ⟨R, Z', eR, hk⟩ := rfk hrok
          have HRS := Lib.hid hk.size
          have HR1 := Lib.hid hk.one
          have hf0 := hk.first
          have HRA : Hid (rfA r = R) := by
            have e6 : R33 r = .agg (rfA r) := rfl
            rw [e6] at eR
            injection eR
          unfold RbSay at HNj
          rw [eR] at HNj
          have hsR := row_size Try.sizeRef33 HRS
          obtain ⟨NN, hNN'⟩ : ∃ NN, ((M ++ Tr.flat (Tr.fr t) j).map rfA).length = NN := ⟨_, rfl⟩
          have HNN := Lib.hid hNN'
          have hNN : NN ≤ 100000 := by
            have q1 := HFL.out j
            have q2 := HTN.out
            rw [List.length_map, List.length_append] at hNN'
            omega
          have HS2 : Hid (0 < r.1 → (M ++ Tr.flat (Tr.fr t) (j + 1)).map rfA = (M ++ Tr.flat (Tr.fr t) j).map rfA ++ [R]) := fun hp => by
            rw [HST.out, Tr.alv_yes hp, ← List.append_assoc, List.map_append, ← HRA.out]; rfl
          have HS3 : Hid (¬ 0 < r.1 → (M ++ Tr.flat (Tr.fr t) (j + 1)).map rfA = (M ++ Tr.flat (Tr.fr t) j).map rfA) := fun hp => by
            rw [HST.out, Tr.alv_no hp, List.append_nil]
          clear hNN' hk eR hrok hr hbc HN HNO HFL HFS HM HC HOK HTS d0 c0
          by_cases hp : 0 < r.1
          · have hb1 := hcl hp
            subst hb1
            have HS4 := Lib.hid (HS2.out hp)
            clear hcl
            go_wp2_with (first
              | (go_at_call 35; refine HNj.out.mono ?_; rintro e1 w1 ⟨rfl, B1⟩)
              | ((with_reducible refine row_store _ _ _ _ _ _ _ ?_ ?_ (heap_alloc_new _ _) hsR ?_ HR1.out ?_); (exact rfl); (exact rfl); (rw [HRS.out, HZS.out]); intro w2 G2 ch2; have B2 := Lib.hid (ch2.below (B1.out.alloc B1.out.size _) B1.out.size); have BB := Lib.hid (HB2.out.trans (B2.out.mono HB2.out.size)); have F2 := Lib.hid (HF2.out.old B2.out); have x2 : w2.cell? ⟨w1.heap.size, 0, none⟩ = some (.int .i64 r.1) := (by rw [cell_of_row w2 _ _ _ _ _ G2.out]; exact hf0))
              | ((with_reducible refine row_load _ _ _ _ _ _ _ ?_ G2.out Try.underlying33 ?_ hsR ?_); (exact rfl); (exact rfl))
              | ((with_reducible refine bs1_g _ _ _ R 33 40 Try.underlying40 Try.infoRf (rfa_size pg_zr) HRS.out ?_ ?_ _ ?_ ?_); (decide); (decide); (exact rfl))
              | (at_builtin; (with_reducible refine app_fl _ _ _ R 33 40 Try.underlying40 Try.infoRf (rfa_size pg_zr) HRS.out ?_ ?_ HR1.out _ _ w.heap.size _ _ NN ?_ ?_ F2.out HNN.out ?_ BB.out.size ?_); (decide); (decide); (exact rfl); (exact rfl); (exact hNN); intro q9 d9 y9 HF9 HT9 HG9; have B9 := Lib.hid ((BB.out.alloc BB.out.size _).grown HG9.out (by simp; have := BB.out.size; omega) (fun g hg => (HT9.out g hg).1))))
            exact ⟨⟨j + 1, by omega, by go_num, by rw [HS4.out]; exact HF9, B9⟩, by simp [intOf]; omega⟩
          · have HS4 := Lib.hid (HS3.out hp)
            clear hcl
            cases bc with
            | true =>
              go_wp2_with (first
                | (go_at_call 35; refine HNj.out.mono ?_; rintro e1 w1 ⟨rfl, B1⟩)
                | ((with_reducible refine row_store _ _ _ _ _ _ _ ?_ ?_ (heap_alloc_new _ _) hsR ?_ HR1.out ?_); (exact rfl); (exact rfl); (rw [HRS.out, HZS.out]); intro w2 G2 ch2; have B2 := Lib.hid (ch2.below (B1.out.alloc B1.out.size _) B1.out.size); have BB := Lib.hid (HB2.out.trans (B2.out.mono HB2.out.size)); have F2 := Lib.hid (HF2.out.old B2.out); have x2 : w2.cell? ⟨w1.heap.size, 0, none⟩ = some (.int .i64 r.1) := (by rw [cell_of_row w2 _ _ _ _ _ G2.out]; exact hf0)))
              exact ⟨⟨j + 1, by omega, by go_num, by rw [HS4.out]; exact F2, BB⟩, by simp [intOf]; omega⟩
            | false =>
              go_wp2_with (first
                | (go_at_call 35; refine HNj.out.mono ?_; rintro e1 w1 ⟨rfl, B1⟩)
                | ((with_reducible refine row_store _ _ _ _ _ _ _ ?_ ?_ (heap_alloc_new _ _) hsR ?_ HR1.out ?_); (exact rfl); (exact rfl); (rw [HRS.out, HZS.out]); intro w2 G2 ch2; have B2 := Lib.hid (ch2.below (B1.out.alloc B1.out.size _) B1.out.size); have BB := Lib.hid (HB2.out.trans (B2.out.mono HB2.out.size)); have F2 := Lib.hid (HF2.out.old B2.out); have x2 : w2.cell? ⟨w1.heap.size, 0, none⟩ = some (.int .i64 r.1) := (by rw [cell_of_row w2 _ _ _ _ _ G2.out]; exact hf0)))
              exact ⟨⟨j + 1, by omega, by go_num, by rw [HS4.out]; exact F2, BB⟩, by simp [intOf]; omega⟩
        · have E : j = 9 := by omega
          subst E
          clear hlt
          go_wp2
          go_ret
          exact ⟨_, rfl, by rw [← HEND.out]; exact HF2, HB2⟩
theorem flat_front {α : Type} (g : Nat → List α) (n : Nat) : Tr.flat g (n + 1) = g 0 ++ Tr.flat (fun k => g (k + 1)) n := by
  unfold Tr.flat
  rw [List.range_succ_eq_map, List.map_cons, List.flatten_cons, List.map_map]
  rfl
theorem blr_map (f : Nat → Pg.Rf) : ∀ n lo, (Tr.blr f lo n).map (·.2) = Tr.flat (fun k => Tr.alv (f (lo + k))) n
  | 0, _ => rfl
  | n + 1, lo => by
    rw [Tr.blr, List.map_append, blr_map f n (lo + 1), flat_front]
    have e1 : (if 0 < (f lo).1 then [(lo, f lo)] else []).map (·.2) = Tr.alv (f (lo + 0)) := by
      unfold Tr.alv
      rw [Nat.add_zero]
      split <;> rfl
    have e2 : Tr.flat (fun k => Tr.alv (f (lo + 1 + k))) n = Tr.flat (fun k => Tr.alv (f (lo + (k + 1)))) n := Tr.flat_congr (fun k _ => by rw [show lo + 1 + k = lo + (k + 1) by omega])
    rw [e1, e2]
theorem rl_refs (t : Tr.T) : Tr.rl t = Tr.refs t := by
  unfold Tr.rl Tr.refs Tr.blocks Tr.nodes Tr.bl
  rw [blr_map]
  simp only [Nat.zero_add]
  rfl
end Go.Proofs.Ytfeemeddhhgigaa

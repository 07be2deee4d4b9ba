/-
  The reference's tree: contract: spoil.
-/
import Derived.Test.YtfeemeddhhgigaaTrS
namespace Go.Proofs.Ytfeemeddhhgigaa
open Go.RowKit

/-- Of the blocks below B only b may have turned. -/
structure OB (b B : Nat) (w w' : World) : Prop where
  os : w'.os = w.os
  tape : w'.tape = w.tape
  output : w'.output = w.output
  size : w.heap.size ≤ w'.heap.size
  block : ∀ k, k < B → k ≠ b → w'.heap[k]? = w.heap[k]?
theorem OB.refl (b B : Nat) (w : World) : OB b B w w := ⟨rfl, rfl, rfl, Nat.le_refl _, fun _ _ _ => rfl⟩
theorem OB.trans {b B : Nat} {x y z : World} (h : OB b B x y) (k : OB b B y z) : OB b B x z := ⟨k.os.trans h.os, k.tape.trans h.tape, k.output.trans h.output, Nat.le_trans h.size k.size, fun i h1 h2 => (k.block i h1 h2).trans (h.block i h1 h2)⟩
theorem OB.of_only {b B : Nat} {w w' : World} (h : Only b w w') (hB : B ≤ w.heap.size) : OB b B w w' := ⟨h.os, h.tape, h.output, h.size, fun k h1 h2 => h.block k (Nat.lt_of_lt_of_le h1 hB) h2⟩
theorem OB.of_below {b B : Nat} {w w' : World} (h : Below w.heap.size w w') (hB : B ≤ w.heap.size) : OB b B w w' := OB.of_only (only_of_below h) hB
theorem OB.only {b B : Nat} {w w' : World} (h : OB b B w w') (hB : w.heap.size ≤ B) : Only b w w' := ⟨h.os, h.tape, h.output, h.size, fun k h1 h2 => h.block k (Nat.lt_of_lt_of_le h1 hB) h2⟩
theorem OB.grown {b B : Nat} {w w' : World} {row : Option Nat} {o : Obj} (hg : (w.alloc o).grownBy w' row) (hB : B ≤ w.heap.size) (hr : ∀ k, row = some k → B ≤ k) : OB b B w w' := by
  have h1 : Below w.heap.size w (w.alloc o) := (Below.refl _ w).alloc (Nat.le_refl _) _
  have h2 := (Below.refl B (w.alloc o)).grown hg (Nat.le_trans hB h1.size) hr
  exact ⟨h2.os.trans h1.os, h2.tape.trans h1.tape, h2.output.trans h1.output, Nat.le_trans h1.size h2.size, fun k hk _ => (h2.block k hk).trans (h1.block k (Nat.lt_of_lt_of_le hk hB))⟩
def rfA (r : Pg.Rf) : Array Value := (cl r).toArray
theorem Try.infoRf : (Try.prog.info? 33).map (fun i => (i.zero, i.size, i.bytes)) = some (some (.agg (rfA Pg.zr)), 33, 40) := by kernel_rfl
theorem rfa_size {r : Pg.Rf} (h : Pg.Ok r) : (rfA r).size = 33 := by unfold rfA; rw [List.size_toArray, cl_len h]
theorem rfa_one (r : Pg.Rf) : (rfA r).all (·.oneCell') = true := all_oneCell_toArray (cl_one r)
theorem build_nd (i : Int) : Try.prog.built 70 [(0, .int .i64 i), (1, .bool true)] = some (.int .i64 i :: .bool true :: cl Pg.zr).toArray := by kernel_rfl
theorem Fl.off2 {K e e' s : Nat} {y z : World} {v v2 : Value} {L : List (Array Value)} {o : Obj} {K2 s2 : Nat} {L2 : List (Array Value)} (h : Fl K e s y v L) (h2 : Fl K2 e' s2 y v2 L2) (hne : e ≠ e') (hg : (y.alloc o).grownBy z v2.ownBlock) : Fl K e s z v L := by
  refine ⟨⟨h.1.1, ?_⟩, h.2⟩
  rcases h.1.2 with h1 | ⟨g, cap, cur, h1, h3, h4, h5⟩
  · exact Or.inl h1
  · refine Or.inr ⟨g, cap, cur, h1, h3, ?_, h5⟩
    have hl := lt_of_block h4
    have hy : (y.alloc o).heap[g]? = y.heap[g]? := ((Below.refl _ y).alloc (Nat.le_refl _) o).block g hl
    rw [← h4, ← hy]
    refine hg.block g (Nat.lt_of_lt_of_le hl ((Below.refl _ y).alloc (Nat.le_refl _) o).size) (fun q => ?_)
    obtain ⟨cur', hc⟩ := (own_type h2.1 g q.symm).2
    rw [h4] at hc
    injection hc with hc
    injection hc with _ hc _
    exact hne hc
theorem RT.grown {K b : Nat} {y z : World} {vb vn v2 : Value} {L : List Tr.Nn} {t : Tr.T} {o : Obj} {K2 s2 : Nat} {L2 : List (Array Value)} (h : RT K y b vb vn L t) (h2 : Fl K2 33 s2 y v2 L2) (hg : (y.alloc o).grownBy z v2.ownBlock) : RT K z b vb vn L t := by
  refine ⟨?_, h.bl.off2 h2 (by decide) hg, h.nd.off2 h2 (by decide) hg, h.rep, h.ok, h.lo⟩
  have hl := lt_of_block h.box
  have hy : (y.alloc o).heap[b]? = y.heap[b]? := ((Below.refl _ y).alloc (Nat.le_refl _) o).block b hl
  rw [← h.box, ← hy]
  refine hg.block b (Nat.lt_of_lt_of_le hl ((Below.refl _ y).alloc (Nat.le_refl _) o).size) (fun q => ?_)
  obtain ⟨cur', hc⟩ := (own_type h2.1 b q.symm).2
  rw [h.box] at hc
  injection hc with hc
  injection hc with _ hc _
  exact absurd hc (by decide)
def SlSay (K b B : Nat) (vb : Value) (L : List Tr.Nn) (t : Tr.T) (D : List Pg.Rf) (w : World) (e : Ending) (w' : World) : Prop :=
  ∃ vd vn, e = .returned vd ∧ Hid (Fl B 33 33 w' vd (D.map rfA)) ∧ Hid (RT K w' b vb vn L t) ∧ Hid (OB b B w w')
set_option maxHeartbeats 4000000 in
set_option maxRecDepth 100000 in
theorem spoil_any {K b B : Nat} {vb vn vd : Value} {L : List Tr.Nn} {t : Tr.T} {D : List Pg.Rf} (i : Nat) (w : World) (h : RT K w b vb vn L t) (hl : L.length ≤ 900) (hL : LOk L) (h9 : ∀ i, 9 ≤ i → t.n i = none) (hi : i < 9) (hD : Fl B 33 33 w vd (D.map rfA)) (hDl : D.length ≤ 1000) (hB : B ≤ w.heap.size) :
    Calls Try.prog 59 #[.pointer (some ⟨b, 0, none⟩), vd, .int .i64 (i : Int)] w (SlSay K b B vb (Tr.wo L i ++ [⟨i, true, Pg.zr⟩]) ⟨t.b, Tr.up t.n i (some none)⟩ (D ++ Tr.alv (Tr.nr (t.n i))) w) := by
  obtain ⟨hn1, hn2⟩ := Tr.node_of (u := t) i hi
  have HN0 := Lib.hid (node_any (i : Int) w h (by omega) h9)
  rw [hn1, hn2] at HN0
  have HIS : Hid (∀ y vn', RT K y b vb vn' L t → Calls Try.prog 64 #[.pointer (some ⟨b, 0, none⟩), .agg (.int .i64 (i : Int) :: .bool true :: cl Pg.zr).toArray] y (IsSay K b vb (Tr.wo L i ++ [⟨i, true, Pg.zr⟩]) ⟨t.b, Tr.up t.n i (some none)⟩ y)) := fun y vn' hy => is_any ⟨i, true, Pg.zr⟩ y hy (by omega) hL pg_zr (by show i < 1000; omega)
  have HBU := Lib.hid (build_nd (i : Int))
  obtain ⟨NA, hNA⟩ : ∃ NA, (.int .i64 (i : Int) :: .bool true :: cl Pg.zr : List Value).toArray = NA := ⟨_, rfl⟩
  rw [hNA] at HIS HBU
  clear hNA
  have hrok : Pg.Ok (Tr.nr (t.n i)) := by
    cases q : t.n i with
    | none => exact pg_zr
    | some y =>
      cases y with
      | none => exact pg_zr
      | some r => exact h.ok.2 i r q
  have hcl : 0 < (Tr.nr (t.n i)).1 → Tr.cln (t.n i) = true := by
    cases q : t.n i with
    | none => intro k; exact absurd k Tr.zr_no
    | some y =>
      cases y with
      | none => intro k; exact absurd k Tr.zr_no
      | some r => intro _; rfl
  obtain ⟨r, hr⟩ : ∃ r, Tr.nr (t.n i) = r := ⟨_, rfl⟩
  obtain ⟨bc, hbc⟩ : ∃ bc, Tr.cln (t.n i) = bc := ⟨_, rfl⟩
  rw [hr, hbc] at HN0 hcl
  rw [hr] at hrok ⊢
  obtain ⟨R, Z', eR, hk⟩ := rfk hrok
  have HRS := Lib.hid hk.size
  have HR1 := Lib.hid hk.one
  have hf0 := hk.first
  have HRA : Hid (rfA r = R) := by
    have e6 : R33 r = .agg (rfA r) := rfl
    rw [e6] at eR
    injection eR
  unfold RbSay at HN0
  rw [eR] at HN0
  have hsR := row_size Try.sizeRef33 HRS
  obtain ⟨Z, hz0⟩ := zfk
  have HZS := Lib.hid hz0.size
  have hz := (zero_of_info hz0.zero).1
  have hzn : ¬ Z = #[] := fun h => by have := HZS.out; rw [h] at this; simp at this
  have HDM := Lib.hid hD
  have HT := Lib.hid h
  obtain ⟨N, hN⟩ : ∃ N, (D.map rfA).length = N := ⟨_, rfl⟩
  have HN := Lib.hid hN
  have hNl : N ≤ 100000 := by rw [List.length_map] at hN; omega
  have HOLD : Hid (∀ y, Below w.heap.size w y → Fl B 33 33 y vd (D.map rfA) ∧ RT K y b vb vn L t) := fun y hy => ⟨hD.old hy, h.old hy⟩
  have HBW := Lib.hid hB
  have E1 : Hid ((D ++ [r]).map rfA = D.map rfA ++ [R]) := by show _ = _; rw [List.map_append, ← HRA.out]; rfl
  unfold SlSay
  by_cases hp : 0 < r.1
  · have hb1 := hcl hp
    subst hb1
    rw [Tr.alv_yes hp]
    clear h hD hk hn1 hn2 hrok hcl hr hbc eR hz0 hN
    go_enter Try.func59, Try.ntmps59
    go_wp2_with (first
      | (go_at_call 35; refine HN0.out.mono ?_; rintro e1 w1 ⟨rfl, B1⟩)
      | ((with_reducible refine row_store _ _ _ _ _ _ _ ?_ ?_ (heap_alloc_new _ _) hsR ?_ HR1.out ?_); (exact rfl); (exact rfl); (rw [HRS.out, HZS.out]); intro w2 G2 ch2; have B2 := Lib.hid (ch2.below (B1.out.alloc B1.out.size _) B1.out.size); obtain ⟨D2, T2⟩ := HOLD.out _ B2.out; have HD2 := Lib.hid D2; have HT2 := Lib.hid T2; have x2 : w2.cell? ⟨w1.heap.size, 0, none⟩ = some (.int .i64 r.1) := (by rw [cell_of_row w2 _ _ _ _ _ G2.out]; exact hf0); have HSZ2 := Lib.hid (Nat.le_trans HBW.out B2.out.size))
      | ((with_reducible refine row_load _ _ _ _ _ _ _ ?_ G2.out Try.underlying33 ?_ hsR ?_); (exact rfl); (exact rfl))
      | ((with_reducible refine bs1_g _ _ _ R 33 40 Try.underlying40 Try.infoRf (rfa_size pg_zr) HRS.out ?_ ?_ _ ?_ ?_); (decide); (decide); (exact rfl))
      | (at_builtin; (with_reducible refine app_fl _ _ _ R 33 40 Try.underlying40 Try.infoRf (rfa_size pg_zr) HRS.out ?_ ?_ HR1.out _ _ B _ (D.map rfA) N ?_ ?_ HD2.out HN.out ?_ HSZ2.out ?_); (decide); (decide); (exact rfl); (exact rfl); (exact hNl); intro q9 d9 y9 HF9 HT9 HG9; have O9 := Lib.hid ((OB.of_below (b := b) B2.out HBW.out).trans (OB.grown (b := b) HG9.out HSZ2.out (fun g hg => (HT9.out g hg).1))); have T9 := Lib.hid (HT2.out.grown HD2.out HG9.out))
      | ((with_reducible refine exec_row2 _ _ _ _ _ _ _ _ ?_ ?_ HBU.out ?_); (exact rfl); (exact rfl))
      | (go_at_call 64; refine (HIS.out _ _ T9.out).mono ?_; rintro e5 w5 ⟨vn5, rfl, T5, O5⟩))
    go_ret
    have hB9 : B ≤ y9.heap.size := Nat.le_trans HBW.out O9.out.size
    refine ⟨_, _, rfl, Lib.hid ?_, T5, Lib.hid (O9.out.trans (OB.of_only O5.out hB9))⟩
    rw [E1.out]
    exact HF9.out.only O5.out (HF9.out.off_box T9.out.box (by decide))
  · rw [Tr.alv_no hp, List.append_nil]
    clear h hD hk hn1 hn2 hrok hcl hr hbc eR hz0 hN
    cases bc with
    | true =>
      go_enter Try.func59, Try.ntmps59
      go_wp2_with (first
        | (go_at_call 35; refine HN0.out.mono ?_; rintro e1 w1 ⟨rfl, B1⟩)
        | ((with_reducible refine row_store _ _ _ _ _ _ _ ?_ ?_ (heap_alloc_new _ _) hsR ?_ HR1.out ?_); (exact rfl); (exact rfl); (rw [HRS.out, HZS.out]); intro w2 G2 ch2; have B2 := Lib.hid (ch2.below (B1.out.alloc B1.out.size _) B1.out.size); obtain ⟨D2, T2⟩ := HOLD.out _ B2.out; have HD2 := Lib.hid D2; have HT2 := Lib.hid T2; have x2 : w2.cell? ⟨w1.heap.size, 0, none⟩ = some (.int .i64 r.1) := (by rw [cell_of_row w2 _ _ _ _ _ G2.out]; exact hf0))
        | ((with_reducible refine exec_row2 _ _ _ _ _ _ _ _ ?_ ?_ HBU.out ?_); (exact rfl); (exact rfl))
        | (go_at_call 64; refine (HIS.out _ _ HT2.out).mono ?_; rintro e5 w5 ⟨vn5, rfl, T5, O5⟩))
      go_ret
      exact ⟨_, _, rfl, Lib.hid (HD2.out.only O5.out (HD2.out.off_box HT2.out.box (by decide))), T5, Lib.hid ((OB.of_below B2.out HBW.out).trans (OB.of_only O5.out (Nat.le_trans HBW.out B2.out.size)))⟩
    | false =>
      go_enter Try.func59, Try.ntmps59
      go_wp2_with (first
        | (go_at_call 35; refine HN0.out.mono ?_; rintro e1 w1 ⟨rfl, B1⟩)
        | ((with_reducible refine row_store _ _ _ _ _ _ _ ?_ ?_ (heap_alloc_new _ _) hsR ?_ HR1.out ?_); (exact rfl); (exact rfl); (rw [HRS.out, HZS.out]); intro w2 G2 ch2; have B2 := Lib.hid (ch2.below (B1.out.alloc B1.out.size _) B1.out.size); obtain ⟨D2, T2⟩ := HOLD.out _ B2.out; have HD2 := Lib.hid D2; have HT2 := Lib.hid T2)
        | ((with_reducible refine exec_row2 _ _ _ _ _ _ _ _ ?_ ?_ HBU.out ?_); (exact rfl); (exact rfl))
        | (go_at_call 64; refine (HIS.out _ _ HT2.out).mono ?_; rintro e5 w5 ⟨vn5, rfl, T5, O5⟩))
      go_ret
      exact ⟨_, _, rfl, Lib.hid (HD2.out.only O5.out (HD2.out.off_box HT2.out.box (by decide))), T5, Lib.hid ((OB.of_below B2.out HBW.out).trans (OB.of_only O5.out (Nat.le_trans HBW.out B2.out.size)))⟩
end Go.Proofs.Ytfeemeddhhgigaa

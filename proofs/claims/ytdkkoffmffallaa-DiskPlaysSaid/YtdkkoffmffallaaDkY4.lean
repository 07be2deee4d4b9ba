/-
  does: one act on both.
-/
import Derived.Test.YtdkkoffmffallaaDkY3
namespace Go.Proofs.Ytdkkoffmffallaa
open Go.RowKit

namespace Dk
def Bnd (m m' : M) : Prop := m'.n = m.n ∧ m'.wr ≤ m.wr + 1 ∧ ∀ j, m'.rd j ≤ m.rd j + 1
theorem spend_b (m : M) : Bnd m (spend m) := ⟨spend_n m, by rw [spend_wr]; omega, fun j => by rw [spend_rd]; omega⟩
theorem wrM_b (m : M) (i : Int) (L : List Int) : Bnd m (wrM m i L) := by
  have h := spend_b m
  have e := spend_wr m
  unfold wrM
  split
  · exact ⟨rfl, Nat.le_succ _, fun j => Nat.le_succ _⟩
  · split
    · exact ⟨rfl, Nat.le_succ _, fun j => Nat.le_succ _⟩
    · split
      · exact h
      · exact ⟨h.1, by first | (show (spend m).wr + 1 ≤ _; omega) | (show m.wr + 1 ≤ _; omega), h.2.2⟩
theorem syM_b (m : M) : Bnd m (syM m) := by
  have h := spend_b m
  unfold syM
  split
  · exact h
  · exact h
theorem rdM_b (m : M) (i : Int) : Bnd m (rdM m i) := by
  unfold rdM
  split
  · refine ⟨rfl, Nat.le_succ _, fun j => ?_⟩
    show upd m.rd _ _ j ≤ _
    by_cases e : j = i.toNat
    · subst e; rw [upd_same]; omega
    · rw [upd_other _ _ e]; omega
  · exact ⟨rfl, Nat.le_succ _, fun j => Nat.le_succ _⟩
theorem crash_b (m : M) (f : Nat → Bool) : Bnd m (crash m f) := by
  have h := crk_n m f (dl m).length
  exact ⟨h.1, by show (crk m f (dl m).length).wr ≤ _; rw [h.2.2]; omega, fun j => by show (crk m f (dl m).length).rd j ≤ _; rw [h.2.1]; omega⟩
theorem tpM_b (m : M) (i : Int) (L : List Int) : Bnd m (tpM m i L) := by
  unfold tpM
  split <;> exact ⟨rfl, Nat.le_succ _, fun j => Nat.le_succ _⟩
end Dk
section
variable {U : Nat → Prop} {r qb : Nat} {m : Dk.M}
theorem refwrite_any (i : Int) (L : List Int) (p : Option Addr) (n c : Nat) (hn : L.length = n) (hnb : n ≤ 1000000) (hwr : m.wr ≤ 1000000000) (w : World) (hd : RfAt w U r qb m) (hb : Bs w p c L) :
    Calls Try.prog 29 #[.pointer (some ⟨r, 0, none⟩), .int .i64 i, .slice p n c] w (RfSay U r qb (.int .i64 (Dk.wrE m i L)) (Dk.wrM m i L) w) := by
  obtain ⟨vl, vc, G, h⟩ := hd
  exact refwrite_c i L p n c hn hnb hwr w h hb
theorem reftamper_any (i : Int) (L : List Int) (p : Option Addr) (n c : Nat) (hn : L.length = n) (hnb : n ≤ 1000000) (w : World) (hd : RfAt w U r qb m) (hb : Bs w p c L) :
    Calls Try.prog 38 #[.pointer (some ⟨r, 0, none⟩), .int .i64 i, .slice p n c] w (RfSay U r qb (.int .i64 (Dk.fault m i L)) (Dk.tpM m i L) w) := by
  obtain ⟨vl, vc, G, h⟩ := hd
  exact reftamper_c i L p n c hn hnb w h hb
theorem refsync_any (w : World) (hd : RfAt w U r qb m) : Calls Try.prog 30 #[.pointer (some ⟨r, 0, none⟩)] w (RfSay U r qb (.int .i64 (Dk.spendE m)) (Dk.syM m) w) := by
  obtain ⟨vl, vc, G, h⟩ := hd
  exact refsync_c w h
theorem refcrash_any (L : List Int) (lp : Option Addr) (lc : Nat) (w : World) (hd : RfAt w U r qb m) (hlp : ∀ y, Mv [r, qb] w y → IAt y lp L) : Calls Try.prog 36 #[.pointer (some ⟨r, 0, none⟩), .slice lp L.length lc] w (RfSay U r qb (.tuple #[]) (Dk.crash m (Dk.fate L)) w) := by
  obtain ⟨vl, vc, G, h⟩ := hd
  exact refcrash_c L lp lc w h hlp
end
section
variable {x : World} {T U : Nat → Prop} {d lb rb cb r qb : Nat} {m : Dk.M}
/-- What does says. -/
def DoesSay (x : World) (d lb rb cb : Nat) (m : Dk.M) (r qb : Nat) (e : Ending) (w' : World) : Prop := e = .returned (.bool true) ∧ ∃ T U m', Hid (Bth x w' T d lb rb cb m' U r qb m') ∧ Hid (Dk.Bnd m m')
set_option maxHeartbeats 4000000 in
set_option maxRecDepth 100000 in
theorem does_any (K I : Int) (D F : List Int) (pd pf : Option Addr) (cd cf : Nat) (w : World) (hb : Bth x w T d lb rb cb m U r qb m) (hI : In64 I) (hD : ∀ y, Below x.heap.size x y → Bs y pd cd D) (hF : ∀ y, Below x.heap.size x y → IAt y pf F) (hDl : D.length ≤ 2000) (hFl : F.length ≤ 200) (hrd : ∀ j, m.rd j ≤ 1000000) (hwr : m.wr ≤ 1000000) :
    Calls Try.prog 13 #[.pointer (some ⟨d, 0, none⟩), .pointer (some ⟨r, 0, none⟩), .agg #[.int .i64 K, .int .i64 I, .slice pd D.length cd, .slice pf F.length cf]] w (DoesSay x d lb rb cb m r qb) := by
  have HB := Lib.hid hb
  have HI := Lib.hid hI
  have HD := Lib.hid hD
  have HF := Lib.hid hF
  have HRD := Lib.hid hrd
  have HBY := Lib.hid (hD w hb.a.old).bat.1
  clear hb hI hD hF hrd
  obtain ⟨J, HJ⟩ : ∃ J, Hid (pk K 9 = J) := ⟨_, rfl⟩
  have hJ9 : J < 9 := by rw [← HJ.out]; have := pk_lt K 9 (by omega); omega
  have LB : Hid (∀ (y : World) (gl : Nat), y.heap[gl]? = some (.cells ((mk5 D).map (Value.int .u8)).toArray 5 (0, 0)) → Bs y (some ⟨gl, 0, none⟩) (D.length + 5) D) := fun y gl h => lent_bs (by omega) h HBY.out
  obtain ⟨w1, HW1⟩ : ∃ y : World, Hid (y = w.alloc (Box K I pd D.length cd pf F.length cf)) := ⟨_, rfl⟩
  have bw1 : Hid (w1.heap[w.heap.size]? = some (Box K I pd D.length cd pf F.length cf)) := by show _ = _; rw [HW1.out]; exact heap_alloc_new _ _
  have B1 : Hid (Below x.heap.size x w1) := by show Below _ _ _; rw [HW1.out]; exact HB.out.a.old.trans ((below_new w _).mono HB.out.a.old.size)
  go_enter Try.func13, Try.ntmps13
  go_upto_region 1 with (fail)
  have HW1' := HW1.out
  unfold Box at HW1'
  rw [← HW1']
  clear HW1'
  have ba := (box_cells bw1.out).2.2.1
  go_upto_region 2 with (go_at_call 28; refine (lent_any D pd cd w1 (HD.out _ B1.out).bat (by omega)).mono ?_; rintro e2 w2 ⟨gl, rfl, hg2, hl2, hb2⟩; have H2 := Lib.hid (Dos.start HB.out hb2 HW1.out hg2 hl2); clear hg2 hl2 hb2)
  clear ba bw1 B1 HW1
  obtain ⟨bc0, bc1, bc2, bc3⟩ := box_cells H2.out.bx
  replace LB : Hid (∀ (y : World), y.heap[gl]? = some (.cells ((mk5 D).map (Value.int .u8)).toArray 5 (0, 0)) → Bs y (some ⟨gl, 0, none⟩) (D.length + 5) D) := fun y h => LB.out y gl h
  go_upto_region 6 with (go_at_call 11; refine (pick_at K 9 (by omega) (by omega) _).mono ?_; rw [HJ.out]; rintro ep q1 ⟨rfl, rfl⟩)
  clear bc0 bc1 bc2 bc3
  obtain rfl | rfl | rfl | rfl | rfl | rfl | rfl | rfl | rfl : J = 0 ∨ J = 1 ∨ J = 2 ∨ J = 3 ∨ J = 4 ∨ J = 5 ∨ J = 6 ∨ J = 7 ∨ J = 8 := by omega
  · -- 0
    go_upto_region 9 with (fail)
    obtain ⟨bc0, bc1, bc2, bc3⟩ := box_cells H2.out.bx
    have H3 := Lib.hid (H2.out.next (Below.refl _ q1).drew)
    go_region_held3 (fun y => y.cell? ⟨w.heap.size, 1, none⟩ = some (.int .i64 I) ∧ y.cell? ⟨w.heap.size, 2, none⟩ = some (.slice pd D.length cd))
      (first | exact ⟨bc1, bc2⟩ | exact ⟨(box_cells H3.out.bx).2.1, (box_cells H3.out.bx).2.2.1⟩ | exact ⟨(box_cells H4.out.bx).2.1, (box_cells H4.out.bx).2.2.1⟩ | exact ⟨(box_cells HX.out.bx).2.1, (box_cells HX.out.bx).2.2.1⟩)
      ((first
        | (go_at_call 15; refine (write_any I D (some ⟨gl, 0, none⟩) D.length (D.length + 5) rfl (by omega) (by omega) _ H3.out.s.a.dk (LB.out _ H3.out.ln)).mono ?_; rintro e4 w4 ⟨rfl, hd4, hm4⟩; have H4 := Lib.hid (H3.out.dwr hd4.out hm4.out); clear hd4 hm4)
        | (go_at_call 29; refine (refwrite_any I D pd D.length cd rfl (by omega) (by omega) _ H4.out.s.b (HD.out _ H4.out.s.a.old)).mono ?_; rintro e5 w5 ⟨rfl, hd5, hm5⟩; have HX := Lib.hid (H4.out.rfw hd5.out hm5.out); clear hd5 hm5)))
    have bc5 := (box_cells HX.out.bx).2.2.1
    clear bc0 bc1 bc2 bc3
    go_wp2_with (first
      | (go_at_call 39; refine (kept_any D gl pd _ cd _ (bat_row HX.out.ln (mk5_byt HBY.out)) (HD.out _ HX.out.s.a.old).bat (by omega) (by omega)).mono ?_; rintro ea wa ⟨rfl, hba⟩; have HY := Lib.hid (HX.out.next hba); clear hba)
      | (go_at_call 33; refine (spoil_cells gl _ (D.length + 5) _ (mk5 D) (mk5_len D) (by omega) _ HY.out.ln (fun j hj => by simp [List.getD_eq_getElem?_getD, mk5_len, hj])).mono ?_; rintro eb wb ⟨rfl, hob⟩; have HZ := Lib.hid (HY.out.s.only hob HY.out.fl.2.2 HY.out.fl.1 HY.out.fl.2.1); clear hob))
    go_ret
    exact ⟨rfl, _, _, _, HZ, Lib.hid (Dk.wrM_b m I D)⟩
  · -- 1
    go_upto_region 9 with (fail)
    obtain ⟨bc0, bc1, bc2, bc3⟩ := box_cells H2.out.bx
    have H3 := Lib.hid (H2.out.next (Below.refl _ q1).drew)
    go_region_held3 (fun y => y.cell? ⟨w.heap.size, 1, none⟩ = some (.int .i64 I) ∧ y.cell? ⟨w.heap.size, 2, none⟩ = some (.slice pd D.length cd))
      (first | exact ⟨bc1, bc2⟩ | exact ⟨(box_cells H3.out.bx).2.1, (box_cells H3.out.bx).2.2.1⟩ | exact ⟨(box_cells H4.out.bx).2.1, (box_cells H4.out.bx).2.2.1⟩ | exact ⟨(box_cells HX.out.bx).2.1, (box_cells HX.out.bx).2.2.1⟩)
      ((first
        | (go_at_call 15; refine (write_any I D (some ⟨gl, 0, none⟩) D.length (D.length + 5) rfl (by omega) (by omega) _ H3.out.s.a.dk (LB.out _ H3.out.ln)).mono ?_; rintro e4 w4 ⟨rfl, hd4, hm4⟩; have H4 := Lib.hid (H3.out.dwr hd4.out hm4.out); clear hd4 hm4)
        | (go_at_call 29; refine (refwrite_any I D pd D.length cd rfl (by omega) (by omega) _ H4.out.s.b (HD.out _ H4.out.s.a.old)).mono ?_; rintro e5 w5 ⟨rfl, hd5, hm5⟩; have HX := Lib.hid (H4.out.rfw hd5.out hm5.out); clear hd5 hm5)))
    have bc5 := (box_cells HX.out.bx).2.2.1
    clear bc0 bc1 bc2 bc3
    go_wp2_with (first
      | (go_at_call 39; refine (kept_any D gl pd _ cd _ (bat_row HX.out.ln (mk5_byt HBY.out)) (HD.out _ HX.out.s.a.old).bat (by omega) (by omega)).mono ?_; rintro ea wa ⟨rfl, hba⟩; have HY := Lib.hid (HX.out.next hba); clear hba)
      | (go_at_call 33; refine (spoil_cells gl _ (D.length + 5) _ (mk5 D) (mk5_len D) (by omega) _ HY.out.ln (fun j hj => by simp [List.getD_eq_getElem?_getD, mk5_len, hj])).mono ?_; rintro eb wb ⟨rfl, hob⟩; have HZ := Lib.hid (HY.out.s.only hob HY.out.fl.2.2 HY.out.fl.1 HY.out.fl.2.1); clear hob))
    go_ret
    exact ⟨rfl, _, _, _, HZ, Lib.hid (Dk.wrM_b m I D)⟩
  · -- 2
    go_upto_region 9 with (fail)
    obtain ⟨bc0, bc1, bc2, bc3⟩ := box_cells H2.out.bx
    have H3 := Lib.hid (H2.out.next (Below.refl _ q1).drew)
    go_region_held3 (fun y => y.cell? ⟨w.heap.size, 1, none⟩ = some (.int .i64 I) ∧ y.cell? ⟨w.heap.size, 2, none⟩ = some (.slice pd D.length cd))
      (first | exact ⟨bc1, bc2⟩ | exact ⟨(box_cells H3.out.bx).2.1, (box_cells H3.out.bx).2.2.1⟩ | exact ⟨(box_cells H4.out.bx).2.1, (box_cells H4.out.bx).2.2.1⟩ | exact ⟨(box_cells HX.out.bx).2.1, (box_cells HX.out.bx).2.2.1⟩)
      ((first
        | (go_at_call 15; refine (write_any I D (some ⟨gl, 0, none⟩) D.length (D.length + 5) rfl (by omega) (by omega) _ H3.out.s.a.dk (LB.out _ H3.out.ln)).mono ?_; rintro e4 w4 ⟨rfl, hd4, hm4⟩; have H4 := Lib.hid (H3.out.dwr hd4.out hm4.out); clear hd4 hm4)
        | (go_at_call 29; refine (refwrite_any I D pd D.length cd rfl (by omega) (by omega) _ H4.out.s.b (HD.out _ H4.out.s.a.old)).mono ?_; rintro e5 w5 ⟨rfl, hd5, hm5⟩; have HX := Lib.hid (H4.out.rfw hd5.out hm5.out); clear hd5 hm5)))
    have bc5 := (box_cells HX.out.bx).2.2.1
    clear bc0 bc1 bc2 bc3
    go_wp2_with (first
      | (go_at_call 39; refine (kept_any D gl pd _ cd _ (bat_row HX.out.ln (mk5_byt HBY.out)) (HD.out _ HX.out.s.a.old).bat (by omega) (by omega)).mono ?_; rintro ea wa ⟨rfl, hba⟩; have HY := Lib.hid (HX.out.next hba); clear hba)
      | (go_at_call 33; refine (spoil_cells gl _ (D.length + 5) _ (mk5 D) (mk5_len D) (by omega) _ HY.out.ln (fun j hj => by simp [List.getD_eq_getElem?_getD, mk5_len, hj])).mono ?_; rintro eb wb ⟨rfl, hob⟩; have HZ := Lib.hid (HY.out.s.only hob HY.out.fl.2.2 HY.out.fl.1 HY.out.fl.2.1); clear hob))
    go_ret
    exact ⟨rfl, _, _, _, HZ, Lib.hid (Dk.wrM_b m I D)⟩
  · -- 3
    go_wp2_with (first
      | (go_at_call 16; refine (sync_any _ H2.out.s.a.dk).mono ?_; rintro e4 w4 ⟨rfl, hd4, hm4⟩; have H4 := Lib.hid (H2.out.dsk hd4.out hm4.out); clear hd4 hm4)
      | (go_at_call 30; refine (refsync_any _ H4.out.s.b).mono ?_; rintro e5 w5 ⟨rfl, hd5, hm5⟩; have HX := Lib.hid (H4.out.rfw hd5.out hm5.out); have bx1 := (box_cells HX.out.bx).2.2.1; clear hd5 hm5)
      | (go_at_call 39; refine (kept_any D gl pd _ cd _ (bat_row HX.out.ln (mk5_byt HBY.out)) (HD.out _ HX.out.s.a.old).bat (by omega) (by omega)).mono ?_; rintro ea wa ⟨rfl, hba⟩; have HY := Lib.hid (HX.out.next hba); clear hba)
      | (go_at_call 33; refine (spoil_cells gl _ (D.length + 5) _ (mk5 D) (mk5_len D) (by omega) _ HY.out.ln (fun j hj => by simp [List.getD_eq_getElem?_getD, mk5_len, hj])).mono ?_; rintro eb wb ⟨rfl, hob⟩; have HZ := Lib.hid (HY.out.s.only hob HY.out.fl.2.2 HY.out.fl.1 HY.out.fl.2.1); clear hob))
    go_ret
    exact ⟨rfl, _, _, _, HZ, Lib.hid (Dk.syM_b m)⟩
  · -- 4
    go_wp2_with (first
      | (go_at_call 23; refine (spend_any _ H2.out.s.a.dk).mono ?_; rintro e4 w4 ⟨rfl, hd4, hm4⟩; have H4 := Lib.hid (H2.out.dsk hd4.out (hm4.more (fun k hk => by simp at hk ⊢; exact Or.inl hk))); clear hd4 hm4)
      | (go_at_call 31; refine (refspend_any _ H4.out.s.b).mono ?_; rintro e5 w5 ⟨rfl, hd5, hm5⟩; have HX := Lib.hid (H4.out.rf0 hd5.out (hm5.out.more (fun k hk => by simp at hk ⊢; exact Or.inl hk))); have bx1 := (box_cells HX.out.bx).2.2.1; clear hd5 hm5)
      | (go_at_call 39; refine (kept_any D gl pd _ cd _ (bat_row HX.out.ln (mk5_byt HBY.out)) (HD.out _ HX.out.s.a.old).bat (by omega) (by omega)).mono ?_; rintro ea wa ⟨rfl, hba⟩; have HY := Lib.hid (HX.out.next hba); clear hba)
      | (go_at_call 33; refine (spoil_cells gl _ (D.length + 5) _ (mk5 D) (mk5_len D) (by omega) _ HY.out.ln (fun j hj => by simp [List.getD_eq_getElem?_getD, mk5_len, hj])).mono ?_; rintro eb wb ⟨rfl, hob⟩; have HZ := Lib.hid (HY.out.s.only hob HY.out.fl.2.2 HY.out.fl.1 HY.out.fl.2.1); clear hob))
    go_ret
    exact ⟨rfl, _, _, _, HZ, Lib.hid (Dk.spend_b m)⟩
  · -- 5
    obtain ⟨bc0, bc1, bc2, bc3⟩ := box_cells H2.out.bx
    have T1 : Hid True := trivial
    have HB1 : Hid (∀ j, m.rd j ≤ 1000000000) := fun j => by have := HRD.out j; omega
    obtain ⟨X, hX⟩ : ∃ X, Hid (Dk.rdX m I = X) := ⟨_, rfl⟩
    have HXL : Hid (X.length ≤ 1024) := by
      show X.length ≤ _
      rw [← hX.out]
      unfold Dk.rdX
      split
      · exact H2.out.s.a.dk.peek_le _
      · simp
    go_wp2_with (first
      | (go_at_call 18; refine (read_any I _ H2.out.s.a.dk HB1.out).mono ?_; rintro e3 q3 ⟨v3, rfl, hv3, hd3, hm3⟩; rw [hX.out] at hv3; obtain ⟨p3, c3, rfl, _⟩ := rd_bs hv3; have P3 := Lib.hid hv3.out; have H3 := Lib.hid (H2.out.dsk hd3.out hm3.out); have bx3 := (box_cells H3.out.bx).2.1; clear hv3 hd3 hm3)
      | (go_at_call 32; refine (refread_any I _ H3.out.s.b HB1.out).mono ?_; rintro e4 q4 ⟨v4, rfl, hv4, hd4, hm4⟩; rw [hX.out] at hv4; obtain ⟨p4, c4, rfl, hb4⟩ := rd_bs hv4; have P4 := Lib.hid hb4; have P3' := Lib.hid (own_keepB P3.out.1 (fun g hg => hm4.out.block g (P3.out.1.lt g hg).2 (fun hin => by have h1 := (P3.out.1.lt g hg).1; have h2 := H2.out.s.b.lt; have h3 := H2.out.s.b.top _ h2.1; have h4 := H2.out.s.b.top _ h2.2; simp at hin; rcases hin with rfl | rfl <;> omega))); obtain ⟨p3', c3', hpe, hpb⟩ := rd_bs (Lib.hid (And.intro P3'.out P3.out.2)); injection hpe with he1 _ he3; subst he1; subst he3; have PB := Lib.hid hpb; clear hpb; have H4 := Lib.hid (H3.out.rf0 hd4.out hm4.out); clear hv4 hd4 hm4 hb4)
      | (go_at_call 19; refine (same_any X p3 p4 _ _ c3 c4 rfl rfl _ PB.out.bat P4.out.bat (by have := HXL.out; omega)).mono ?_; rintro e5 q5 ⟨rfl, hb5⟩; have H5 := Lib.hid (H4.out.next hb5); have P5 := Lib.hid (own_keepX P3'.out hb5); clear hb5)
      | (go_at_call 33; have tk := T1.out; clear tk T1; refine (spoil_own P5.out (by have := HXL.out; omega)).mono ?_; rintro e6 q6 ⟨rfl, hs6⟩; have HX := Lib.hid (H5.out.spoil hs6 (fun g hg => H2.out.free P3.out.1 g hg)); have bx1 := (box_cells HX.out.bx).2.2.1; clear hs6)
      | (go_at_call 39; refine (kept_any D gl pd _ cd _ (bat_row HX.out.ln (mk5_byt HBY.out)) (HD.out _ HX.out.s.a.old).bat (by omega) (by omega)).mono ?_; rintro ea wa ⟨rfl, hba⟩; have HY := Lib.hid (HX.out.next hba); clear hba)
      | (go_at_call 33; refine (spoil_cells gl _ (D.length + 5) _ (mk5 D) (mk5_len D) (by omega) _ HY.out.ln (fun j hj => by simp [List.getD_eq_getElem?_getD, mk5_len, hj])).mono ?_; rintro eb wb ⟨rfl, hob⟩; have HZ := Lib.hid (HY.out.s.only hob HY.out.fl.2.2 HY.out.fl.1 HY.out.fl.2.1); clear hob))
    go_ret
    exact ⟨rfl, _, _, _, HZ, Lib.hid (Dk.rdM_b m I)⟩
  · -- 6
    obtain ⟨bc0, bc1, bc2, bc3⟩ := box_cells H2.out.bx
    go_wp2_with (first
      | (go_at_call 22; refine (arm_any I HI.out _ H2.out.s.a.dk).mono ?_; rintro e4 w4 ⟨rfl, hd4, hm4⟩; have H4 := Lib.hid (H2.out.dsk hd4.out (hm4.more (fun k hk => by simp at hk ⊢; exact Or.inl hk))); have bx0 := (box_cells H4.out.bx).2.1; clear hd4 hm4)
      | (go_at_call 34; refine (refarm_any I HI.out _ H4.out.s.b).mono ?_; rintro e5 w5 ⟨rfl, hd5, hm5⟩; have HX := Lib.hid (H4.out.rf0 hd5.out (hm5.out.more (fun k hk => by simp at hk ⊢; exact Or.inl hk))); have bx1 := (box_cells HX.out.bx).2.2.1; clear hd5 hm5)
      | (go_at_call 39; refine (kept_any D gl pd _ cd _ (bat_row HX.out.ln (mk5_byt HBY.out)) (HD.out _ HX.out.s.a.old).bat (by omega) (by omega)).mono ?_; rintro ea wa ⟨rfl, hba⟩; have HY := Lib.hid (HX.out.next hba); clear hba)
      | (go_at_call 33; refine (spoil_cells gl _ (D.length + 5) _ (mk5 D) (mk5_len D) (by omega) _ HY.out.ln (fun j hj => by simp [List.getD_eq_getElem?_getD, mk5_len, hj])).mono ?_; rintro eb wb ⟨rfl, hob⟩; have HZ := Lib.hid (HY.out.s.only hob HY.out.fl.2.2 HY.out.fl.1 HY.out.fl.2.1); clear hob))
    go_ret
    exact ⟨rfl, _, _, _, HZ, Lib.hid ⟨rfl, Nat.le_succ _, fun j => Nat.le_succ _⟩⟩
  · -- 7
    obtain ⟨bc0, bc1, bc2, bc3⟩ := box_cells H2.out.bx
    go_wp2_with (first
      | (go_at_call 35; refine (lentints_any F pf cf _ (HF.out _ H2.out.s.a.old) (by omega)).mono ?_; rintro e3 q3 ⟨gi, rfl, hgi, hli, hbi⟩; have H3 := Lib.hid (H2.out.next hbi); have HGI := Lib.hid hgi; have HLI := Lib.hid hli; have bx3 := (box_cells H3.out.bx).2.2.2; clear hgi hli hbi)
      | (go_at_call 17; refine (crash_any F (some ⟨gi, 0, none⟩) F.length (F.length + 5) rfl _ H3.out.s.a.dk (by omega) (fun y hy => IAt.pre (iat_row ((hy.block gi (lt_of_block HLI.out) (fun hin => by have h1 := HGI.out; have h2 := H2.out.s.a.dk.lt; have k1 := H2.out.s.a.dk.top _ h2.1; have k2 := H2.out.s.a.dk.top _ h2.2.1; have k3 := H2.out.s.a.dk.top _ h2.2.2.1; have k4 := H2.out.s.a.dk.top _ h2.2.2.2; simp at hin; rcases hin with rfl | rfl | rfl | rfl <;> omega)).trans HLI.out)))).mono ?_; rintro e4 q4 ⟨rfl, hd4, hm4⟩; have H4 := Lib.hid (H3.out.dsk hd4.out hm4.out); have L4 := Lib.hid ((hm4.out.block gi (lt_of_block HLI.out) (fun hin => by have h1 := HGI.out; have h2 := H2.out.s.a.dk.lt; have k1 := H2.out.s.a.dk.top _ h2.1; have k2 := H2.out.s.a.dk.top _ h2.2.1; have k3 := H2.out.s.a.dk.top _ h2.2.2.1; have k4 := H2.out.s.a.dk.top _ h2.2.2.2; simp at hin; rcases hin with rfl | rfl | rfl | rfl <;> omega)).trans HLI.out); have bx4 := (box_cells H4.out.bx).2.2.2; clear hd4 hm4)
      | (go_at_call 36; refine (refcrash_any F pf cf _ H4.out.s.b (fun y hy => HF.out y (hy.below H4.out.s.a.old H4.out.s.kr H4.out.s.a.old.size))).mono ?_; rintro e5 q5 ⟨rfl, hd5, hm5⟩; have H5 := Lib.hid (H4.out.rfw hd5.out hm5.out); have L5 := Lib.hid ((hm5.out.block gi (lt_of_block L4.out) (fun hin => by have h1 := HGI.out; have h2 := H2.out.s.b.lt; have k1 := H2.out.s.b.top _ h2.1; have k2 := H2.out.s.b.top _ h2.2; simp at hin; rcases hin with rfl | rfl <;> omega)).trans L4.out); have bx5 := (box_cells H5.out.bx).2.2.2; clear hd5 hm5)
      | (go_at_call 37; refine (keptints_any F gi pf _ cf _ (iat_row L5.out) (HF.out _ H5.out.s.a.old) (by omega) (by omega)).mono ?_; rintro e6 q6 ⟨rfl, hb6⟩; have HX := Lib.hid (H5.out.next hb6); have bx1 := (box_cells HX.out.bx).2.2.1; clear hb6)
      | (go_at_call 39; refine (kept_any D gl pd _ cd _ (bat_row HX.out.ln (mk5_byt HBY.out)) (HD.out _ HX.out.s.a.old).bat (by omega) (by omega)).mono ?_; rintro ea wa ⟨rfl, hba⟩; have HY := Lib.hid (HX.out.next hba); clear hba)
      | (go_at_call 33; refine (spoil_cells gl _ (D.length + 5) _ (mk5 D) (mk5_len D) (by omega) _ HY.out.ln (fun j hj => by simp [List.getD_eq_getElem?_getD, mk5_len, hj])).mono ?_; rintro eb wb ⟨rfl, hob⟩; have HZ := Lib.hid (HY.out.s.only hob HY.out.fl.2.2 HY.out.fl.1 HY.out.fl.2.1); clear hob))
    go_ret
    exact ⟨rfl, _, _, _, HZ, Lib.hid (Dk.crash_b m _)⟩
  · -- 8
    go_upto_region 5 with (fail)
    obtain ⟨bc0, bc1, bc2, bc3⟩ := box_cells H2.out.bx
    have H3 := Lib.hid (H2.out.next (Below.refl _ q1).drew)
    go_region_held3 (fun y => y.cell? ⟨w.heap.size, 1, none⟩ = some (.int .i64 I) ∧ y.cell? ⟨w.heap.size, 2, none⟩ = some (.slice pd D.length cd))
      (first | exact ⟨bc1, bc2⟩ | exact ⟨(box_cells H3.out.bx).2.1, (box_cells H3.out.bx).2.2.1⟩ | exact ⟨(box_cells H4.out.bx).2.1, (box_cells H4.out.bx).2.2.1⟩ | exact ⟨(box_cells HX.out.bx).2.1, (box_cells HX.out.bx).2.2.1⟩)
      ((first
        | (go_at_call 25; refine (tamper_any I D (some ⟨gl, 0, none⟩) D.length (D.length + 5) rfl (by omega) _ H3.out.s.a.dk (LB.out _ H3.out.ln)).mono ?_; rintro e4 w4 ⟨rfl, hd4, hm4⟩; have H4 := Lib.hid (H3.out.dwr hd4.out hm4.out); clear hd4 hm4)
        | (go_at_call 38; refine (reftamper_any I D pd D.length cd rfl (by omega) _ H4.out.s.b (HD.out _ H4.out.s.a.old)).mono ?_; rintro e5 w5 ⟨rfl, hd5, hm5⟩; have HX := Lib.hid (H4.out.rfw hd5.out hm5.out); clear hd5 hm5)))
    have bc5 := (box_cells HX.out.bx).2.2.1
    clear bc0 bc1 bc2 bc3
    go_wp2_with (first
      | (go_at_call 39; refine (kept_any D gl pd _ cd _ (bat_row HX.out.ln (mk5_byt HBY.out)) (HD.out _ HX.out.s.a.old).bat (by omega) (by omega)).mono ?_; rintro ea wa ⟨rfl, hba⟩; have HY := Lib.hid (HX.out.next hba); clear hba)
      | (go_at_call 33; refine (spoil_cells gl _ (D.length + 5) _ (mk5 D) (mk5_len D) (by omega) _ HY.out.ln (fun j hj => by simp [List.getD_eq_getElem?_getD, mk5_len, hj])).mono ?_; rintro eb wb ⟨rfl, hob⟩; have HZ := Lib.hid (HY.out.s.only hob HY.out.fl.2.2 HY.out.fl.1 HY.out.fl.2.1); clear hob))
    go_ret
    exact ⟨rfl, _, _, _, HZ, Lib.hid (Dk.tpM_b m I D)⟩
end
end Go.Proofs.Ytdkkoffmffallaa

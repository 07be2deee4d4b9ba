/-
  The law MacSame walked.
-/
import Derived.Test.YtjidkkehhglahaaDoorSameA
import Derived.Test.YtjidkkehhglahaaDoorMacK
namespace Go.Proofs.YtjidkkehhglahaaDoor
open Go.RowKit

def pk (k n : Int) : Nat := (if k.tmod n < 0 then k.tmod n + n else k.tmod n).toNat
theorem pk_lt (k n : Int) (h : 1 ≤ n) : (pk k n : Int) < n := by
  have t1 : k.tmod n < n := Int.tmod_lt_of_pos _ (by omega)
  have t2 : -n < k.tmod n := by
    have := Int.tmod_lt_of_pos (-k) (b := n) (by omega)
    rw [Int.neg_tmod] at this
    omega
  unfold pk
  split <;> omega
set_option maxHeartbeats 1000000 in
theorem pick_det (k n : Int) (h1 : 1 ≤ n) (h2 : n ≤ 1152921504606846976) (w : World) : Calls Tryd.prog 27 #[.int .i64 k, .int .i64 n] w (fun e w' => e = .returned (.int .i64 (pk k n : Nat)) ∧ w = w') := by
  have t1 : k.tmod n < n := Int.tmod_lt_of_pos _ (by omega)
  have t2 : -n < k.tmod n := by
    have := Int.tmod_lt_of_pos (-k) (b := n) (by omega)
    rw [Int.neg_tmod] at this
    omega
  have hf : decide (n < 1) = false := by simp; omega
  by_cases hneg : k.tmod n < 0
  · have e : ((pk k n : Nat) : Int) = k.tmod n + n := by unfold pk; rw [if_pos hneg, Int.toNat_of_nonneg (by omega)]
    rw [e]
    go_enter Tryd.func27, Tryd.ntmps27
    go_wp2
    go_ret
    exact ⟨rfl, rfl⟩
  · have e : ((pk k n : Nat) : Int) = k.tmod n := by unfold pk; rw [if_neg hneg, Int.toNat_of_nonneg (by omega)]
    rw [e]
    have hneg' : 0 ≤ k.tmod n := by omega
    clear hneg
    go_enter Tryd.func27, Tryd.ntmps27
    go_wp2
    go_ret
    exact ⟨rfl, rfl⟩

def sm (a b : List Int) : Nat → Bool
  | 0 => true
  | k + 1 => sm a b k && (a.getD k 0 == b.getD k 0)
theorem sm_succ (a b : List Int) (k : Nat) : sm a b (k + 1) = (sm a b k && (a.getD k 0 == b.getD k 0)) := rfl
theorem sm_iff (a b : List Int) (k : Nat) : sm a b k = true ↔ ∀ j, j < k → a.getD j 0 = b.getD j 0 := by
  induction k with
  | zero => simp [sm]
  | succ k ih =>
    rw [sm_succ, Bool.and_eq_true, ih, beq_iff_eq]
    constructor
    · rintro ⟨h1, h2⟩ j hj
      by_cases h : j = k
      · subst h; exact h2
      · exact h1 j (by omega)
    · intro h
      exact ⟨fun j hj => h j (by omega), h k (by omega)⟩
theorem un_sm (a b : List Int) (ha : Sha.Byt a) (hb : Sha.Byt b) (k : Nat) : (un a b k == 0) = sm a b k := by
  rw [Bool.eq_iff_iff, beq_iff_eq, un_zero a b ha hb, sm_iff]
theorem sm_comm (a b : List Int) (k : Nat) : sm b a k = sm a b k := by
  rw [Bool.eq_iff_iff, sm_iff, sm_iff]
  exact ⟨fun h j hj => (h j hj).symm, fun h j hj => (h j hj).symm⟩
theorem sm_self (a : List Int) (k : Nat) : sm a a k = true := by rw [sm_iff]; exact fun _ _ => rfl
theorem sm_set (a : List Int) (ha : Sha.Byt a) (r : Nat) (x : Int) (hx : 0 ≤ x ∧ x ≤ 255) (hr : r < a.length) (hl : a.length = 32) : sm a (a.set r (bits .xor .u8 (a.getD r 0) x)) 32 = (x == 0) := by
  rw [Bool.eq_iff_iff, sm_iff, beq_iff_eq]
  have hz : bits .xor .u8 (a.getD r 0) x = a.getD r 0 ↔ x = 0 := by
    have h0 := Sha.byt_getD ha r
    have e : bits .xor .u8 (a.getD r 0) x = (((BitVec.ofInt 8 (a.getD r 0) ^^^ BitVec.ofInt 8 x).toNat : Nat) : Int) := by
      show IntKind.u8.wrap (((BitVec.ofInt 8 (a.getD r 0) ^^^ BitVec.ofInt 8 x).toNat : Nat) : Int) = _
      exact wrap_u8 _ (BitVec.isLt _)
    have e2 : ((BitVec.ofInt 8 (a.getD r 0)).toNat : Int) = a.getD r 0 := by rw [ofInt_u8 _ h0]; omega
    constructor
    · intro h
      rw [e] at h
      have h3 : BitVec.ofInt 8 (a.getD r 0) ^^^ BitVec.ofInt 8 x = BitVec.ofInt 8 (a.getD r 0) := BitVec.eq_of_toNat_eq (by omega)
      have h4 : BitVec.ofInt 8 x = 0#8 := by
        have h5 := congrArg (fun z => BitVec.ofInt 8 (a.getD r 0) ^^^ z) h3
        simpa [← BitVec.xor_assoc] using h5
      have h6 := congrArg BitVec.toNat h4
      rw [ofInt_u8 x hx] at h6
      simp at h6
      omega
    · rintro rfl
      rw [e]
      simpa using e2
  constructor
  · intro h
    have h1 := h r (by omega)
    rw [List.getD_eq_getElem?_getD (l := a.set r _), List.getElem?_set_self hr] at h1
    exact hz.1 h1.symm
  · intro h j hj
    by_cases hjr : j = r
    · subst hjr
      rw [List.getD_eq_getElem?_getD (l := a.set j _), List.getElem?_set_self hr]
      exact (hz.2 h).symm
    · rw [List.getD_eq_getElem?_getD, List.getD_eq_getElem?_getD, List.getElem?_set_ne (fun e => hjr e.symm)]
attribute [irreducible] sm pk

theorem row_load_g {P : Program} {ops : Array Oper} {rest : List Oper} {a : Act} {w : World} {Q : Exit → Act → World → Prop} {D : Option Tmp} {T : TypeId} {ps : String} {af : Array Edge} {gd : Option (Nat × Bool)}
    (ty : TypeId) (x : Operand) (g : Nat) (t : TypeId) (cs : Array Value) (fr : Nat × Nat) (d : TypeDesc) (hw : Region.wanted { dst := D, op := .load ty x, type := T, pos := ps, after := af, guard := gd } (yielded ops a.tmps) = true)
    (hx : a.eval x = .pointer (some ⟨g, 0, none⟩)) (hg : w.heap[g]? = some (.cells cs t fr))
    (hu : P.underlying ty = some d) (hd : d.isRow = true) (hi : (P.info? ty).map (·.size) = some cs.size)
    (h : wpList P ops Q rest (a.put D (.agg cs)) w) : wpList P ops Q ({ dst := D, op := .load ty x, type := T, pos := ps, after := af, guard := gd } :: rest) a w :=
  BigFrame.wpList_want hw fun K hK => wp_load_mid ty x rfl g 0 hx cs.toList d (row_range' hg) hu hd (by simpa using hi) (hK _ _ (by simpa using h))
theorem row_rangeL {w : World} {g : Nat} {l : List Int} {t : TypeId} {fr : Nat × Nat} (h : w.heap[g]? = some (.cells (l.map (Value.int .u8)).toArray t fr)) : w.rangeAt g 0 (l.map (Value.int .u8)) := fun j v hv => by
  rw [cell_of_row w g (0 + j) _ _ _ h, Nat.zero_add]
  simpa using hv

set_option maxHeartbeats 1500000 in
set_option maxRecDepth 100000 in
theorem same_law (hT : TakeSaid) (a b : List Int) (ha : a.length = 32) (hb : b.length = 32) (hba : Sha.Byt a) (hbb : Sha.Byt b) (i x : Int) (hx : 0 ≤ x ∧ x ≤ 255) (w : World) (ht : Tab w 0) :
    Calls Tryd.prog 17 #[.agg (a.map (Value.int .u8)).toArray, .agg (b.map (Value.int .u8)).toArray, .int .i64 i, .int .u8 x] w (YesSay w) := by
  have HT := Lib.hid hT; clear hT
  have Ht := Lib.hid ht; clear ht
  have Ha := Lib.hid ha
  have Hb := Lib.hid hb; clear hb
  have Hba := Lib.hid hba
  have Hbb := Lib.hid hbb; clear hbb
  have HR : Hid ((pk i 32 : Int) < 32) := pk_lt i 32 (by omega)
  have HPK : Hid (∀ w, Calls Tryd.prog 27 #[.int .i64 i, .int .i64 32] w (fun e w' => e = .returned (.int .i64 (pk i 32 : Nat)) ∧ w = w')) := fun w => pick_det i 32 (by omega) (by omega) w
  go_enter Tryd.func17, Tryd.ntmps17
  go_wp2
  go_loopw [9, 10] (fun v9 v10 wr => ∃ k : Nat, k ≤ 32 ∧ v10 = .int .i64 k ∧ v9 = .bool (sm a b k) ∧ Hid (wr.heap[w.heap.size]? = some (.cells (a.map (Value.int .u8)).toArray 30 (0, 0))) ∧ Hid (wr.heap[w.heap.size + 1]? = some (.cells (b.map (Value.int .u8)).toArray 30 (0, 0))) ∧ Hid (Below w.heap.size w wr)) (fun _ v10 _ => 32 - (intOf v10).toNat)
  case atStart =>
    refine ⟨0, by omega, rfl, by rw [sm], heap_alloc2_old w _ _, heap_alloc2_new w _ _, ?_⟩
    exact ((Below.refl _ w).alloc (Nat.le_refl _) _).alloc (by simp) _
  case round =>
    obtain ⟨k, hk, rfl, rfl, HA, HB, HBW⟩ := hrel
    by_cases hlt : k < 32
    · have c0 := row_cell HA.out k (by rw [Ha.out]; exact hlt)
      have c1 := row_cell HB.out k (by rw [Hb.out]; exact hlt)
      have HS : Hid (sm a b (k + 1) = (sm a b k && (a.getD k 0 == b.getD k 0))) := sm_succ a b k
      have hn : 0 ≤ (k : Int) := by omega
      have hm : (k : Int) < 32 := by omega
      generalize a.getD k 0 = y at *
      generalize b.getD k 0 = z at *
      generalize sm a b k = s at *
      cases s
      · go_wp2
        go_quiet (fail)
        go_wp2
        exact ⟨⟨k + 1, by omega, by go_num, by rw [HS.out]; simp, HA.out, HB.out, below_dn HBW.out _⟩, by simp [intOf]; omega⟩
      · go_wp2
        go_quiet (fail)
        go_wp2
        exact ⟨⟨k + 1, by omega, by go_num, by rw [HS.out]; simp, HA.out, HB.out, below_dn HBW.out _⟩, by simp [intOf]; omega⟩
    · have E : k = 32 := by omega
      subst E
      have HRN : Hid (pk i 32 < 32) := by have := HR.out; show _ < _; omega
      obtain ⟨A, HA1, HA2, HA3⟩ : ∃ A : Array Value, Hid (A = (a.map (Value.int .u8)).toArray) ∧ Hid (A.size = 32) ∧ Hid (A.all (·.oneCell') = true) :=
        ⟨_, rfl, by show _ = _; simp [Ha.out], all_oneCell_toArray (bytes_one _)⟩
      have HA0 : Hid (wr.heap[w.heap.size]? = some (.cells A 30 (0, 0))) := by
        have h := HA.out
        rw [← HA1.out] at h
        exact h
      have HSM : Hid (sm a (a.set (pk i 32) (bits .xor .u8 (a.getD (pk i 32) 0) x)) 32 = (x == 0)) := sm_set a hba (pk i 32) x hx (by rw [ha]; exact HRN.out) ha
      have HCB : Hid (Sha.Byt (a.set (pk i 32) (bits .xor .u8 (a.getD (pk i 32) 0) x))) := fun y hy => by
        rcases List.mem_or_eq_of_mem_set hy with h | rfl
        · exact hba y h
        · exact xor_byt _ _
      clear hlt ha hba
      generalize hs : sm a b 32 = s at *
      have HSS := Lib.hid hs
      clear hs
      go_upto_region 7 with (first
        | ((with_reducible refine row_load _ _ _ _ _ _ _ ?_ HA0.out Tryd.underlying30 ?_ (row_size Tryd.sizeSum HA2) ?_); (exact rfl); (exact rfl))
        | ((with_reducible refine row_store _ _ _ _ _ _ _ ?_ ?_ (heap_alloc_new _ _) (row_size Tryd.sizeSum HA2) ?_ HA3.out ?_); (exact rfl); (exact rfl); (rw [HA2.out]; rfl); intro w2 g2 ch2))
      have BW2 : Hid (Below w.heap.size w w2) := ch2.below (HBW.out.alloc HBW.out.size _) HBW.out.size
      have hsz : wr.heap.size < w2.heap.size := by rw [ch2.size]; simp
      have old2 : ∀ j, j < wr.heap.size → w2.heap[j]? = wr.heap[j]? := fun j hj => by rw [ch2.block _ (by omega), heap_alloc_old _ _ hj]
      have HA2' : Hid (w2.heap[w.heap.size]? = some (.cells (a.map (Value.int .u8)).toArray 30 (0, 0))) := (old2 _ (lt_of_block HA.out)).trans HA.out
      have HB2' : Hid (w2.heap[w.heap.size + 1]? = some (.cells (b.map (Value.int .u8)).toArray 30 (0, 0))) := (old2 _ (lt_of_block HB.out)).trans HB.out
      have HC2' : Hid (w2.heap[wr.heap.size]? = some (.cells (a.map (Value.int .u8)).toArray 30 (0, 0))) := by
        have h := g2.out
        rw [HA1.out] at h
        exact h
      have hne1 := lt_of_block HA.out
      have hne2 := lt_of_block HB.out
      clear g2 ch2 old2 HA HB HBW HA0
      generalize wr.heap.size = G at *
      have c0 := row_cell HC2'.out (pk i 32) (by rw [Ha.out]; exact HRN.out)
      have f0 := frozen_of_row w2 G (pk i 32) _ _ HC2'.out
      have HC3 := Lib.hid (set_u8' (i := pk i 32) (x := bits .xor .u8 (a.getD (pk i 32) 0) x) HC2'.out)
      have hp0 : 0 ≤ (pk i 32 : Int) := by omega
      have hp1 : (pk i 32 : Int) < 32 := HR.out
      have HCL : Hid ((a.set (pk i 32) (bits .xor .u8 (a.getD (pk i 32) 0) x)).length = 32) := by show _ = _; rw [List.length_set]; exact Ha.out
      generalize a.set (pk i 32) (bits .xor .u8 (a.getD (pk i 32) 0) x) = C at *
      generalize a.getD (pk i 32) 0 = y at *
      generalize pk i 32 = r at *
      go_upto_region 8 with (go_at_call 27; refine (HPK.out _).mono ?_; rintro e w3 ⟨rfl, rfl⟩)
      have HA8 : Hid ((w2.setCell ⟨G, r, none⟩ (.int .u8 (bits .xor .u8 y x))).heap[w.heap.size]? = some (.cells (a.map (Value.int .u8)).toArray 30 (0, 0))) := (heap_setCell_other _ _ _ _ (by simp; omega)).trans HA2'.out
      have HB8 : Hid ((w2.setCell ⟨G, r, none⟩ (.int .u8 (bits .xor .u8 y x))).heap[w.heap.size + 1]? = some (.cells (b.map (Value.int .u8)).toArray 30 (0, 0))) := (heap_setCell_other _ _ _ _ (by simp; omega)).trans HB2'.out
      have HC8 : Hid ((w2.setCell ⟨G, r, none⟩ (.int .u8 (bits .xor .u8 y x))).heap[G]? = some (.cells (C.map (Value.int .u8)).toArray 30 (0, 0))) := HC3.out
      have BW8 : Hid (Below w.heap.size w (w2.setCell ⟨G, r, none⟩ (.int .u8 (bits .xor .u8 y x)))) := BW2.out.setCell (by simp; omega) _
      clear HA2' HB2' HC2' HC3 BW2 c0 f0
      generalize (w2.setCell ⟨G, r, none⟩ (.int .u8 (bits .xor .u8 y x))) = w8 at *
      have SA : Hid ((a.map (Value.int .u8)).toArray.size = 32) := by show _ = _; simp [Ha.out]
      have SB : Hid ((b.map (Value.int .u8)).toArray.size = 32) := by show _ = _; simp [Hb.out]
      have SC : Hid ((C.map (Value.int .u8)).toArray.size = 32) := by show _ = _; simp [HCL.out]
      go_wp2_with (first
        | ((with_reducible refine row_load_g _ _ _ _ _ _ _ ?_ ?_ HC11.out Tryd.underlying30 ?_ (row_size Tryd.sizeSum SC) ?_); (exact rfl); (exact rfl); (exact rfl))
        | ((with_reducible refine row_load_g _ _ _ _ _ _ _ ?_ ?_ HA11.out Tryd.underlying30 ?_ (row_size Tryd.sizeSum SA) ?_); (exact rfl); (exact rfl); (exact rfl))
        | ((with_reducible refine row_load_g _ _ _ _ _ _ _ ?_ ?_ HA10.out Tryd.underlying30 ?_ (row_size Tryd.sizeSum SA) ?_); (exact rfl); (exact rfl); (exact rfl))
        | ((with_reducible refine row_load_g _ _ _ _ _ _ _ ?_ ?_ HA9.out Tryd.underlying30 ?_ (row_size Tryd.sizeSum SA) ?_); (exact rfl); (exact rfl); (exact rfl))
        | ((with_reducible refine row_load_g _ _ _ _ _ _ _ ?_ ?_ HB9.out Tryd.underlying30 ?_ (row_size Tryd.sizeSum SB) ?_); (exact rfl); (exact rfl); (exact rfl))
        | ((with_reducible refine row_load_g _ _ _ _ _ _ _ ?_ ?_ HA8.out Tryd.underlying30 ?_ (row_size Tryd.sizeSum SA) ?_); (exact rfl); (exact rfl); (exact rfl))
        | ((with_reducible refine row_load_g _ _ _ _ _ _ _ ?_ ?_ HB8.out Tryd.underlying30 ?_ (row_size Tryd.sizeSum SB) ?_); (exact rfl); (exact rfl); (exact rfl))
        | (go_at_call 32; refine (msame_any a C Ha.out HCL.out w11).mono ?_; rintro e w12 ⟨rfl, hb12⟩; rw [un_sm a C Hba.out HCB.out, HSM.out]; have BW12 : Hid (Below w.heap.size w w12) := BW11.out.trans (hb12.mono BW11.out.size); have HA12 := Lib.hid ((hb12.block _ (lt_of_block HA11.out)).trans HA11.out); have HB12 := Lib.hid ((hb12.block _ (lt_of_block HB11.out)).trans HB11.out); have HC12 := Lib.hid ((hb12.block _ (lt_of_block HC11.out)).trans HC11.out); clear hb12)
        | (go_at_call 32; refine (msame_any a a Ha.out Ha.out w10).mono ?_; rintro e w11 ⟨rfl, hb11⟩; rw [un_sm a a Hba.out Hba.out, sm_self]; have BW11 : Hid (Below w.heap.size w w11) := BW10.out.trans (hb11.mono BW10.out.size); have HA11 := Lib.hid ((hb11.block _ (lt_of_block HA10.out)).trans HA10.out); have HB11 := Lib.hid ((hb11.block _ (lt_of_block HB10.out)).trans HB10.out); have HC11 := Lib.hid ((hb11.block _ (lt_of_block HC10.out)).trans HC10.out); clear hb11)
        | (go_at_call 32; refine (msame_any b a Hb.out Ha.out w9).mono ?_; rintro e w10 ⟨rfl, hb10⟩; rw [un_sm b a Hbb.out Hba.out, sm_comm, HSS.out]; have BW10 : Hid (Below w.heap.size w w10) := BW9.out.trans (hb10.mono BW9.out.size); have HA10 := Lib.hid ((hb10.block _ (lt_of_block HA9.out)).trans HA9.out); have HB10 := Lib.hid ((hb10.block _ (lt_of_block HB9.out)).trans HB9.out); have HC10 := Lib.hid ((hb10.block _ (lt_of_block HC9.out)).trans HC9.out); clear hb10)
        | (go_at_call 32; refine (msame_any a b Ha.out Hb.out w8).mono ?_; rintro e w9 ⟨rfl, hb9⟩; rw [un_sm a b Hba.out Hbb.out, HSS.out]; have BW9 : Hid (Below w.heap.size w w9) := BW8.out.trans (hb9.mono BW8.out.size); have HA9 := Lib.hid ((hb9.block _ (lt_of_block HA8.out)).trans HA8.out); have HB9 := Lib.hid ((hb9.block _ (lt_of_block HB8.out)).trans HB8.out); have HC9 := Lib.hid ((hb9.block _ (lt_of_block HC8.out)).trans HC8.out); clear hb9)
        | (go_at_call 21; refine (works_any HT.out w12 (Ht.out.below BW12.out Ht.out.lt)).mono ?_; rintro e w13 ⟨rfl, hb13⟩; have BW13 : Hid (Below w.heap.size w w13) := BW12.out.trans (hb13.mono BW12.out.size); clear hb13))
      go_ret
      exact ⟨rfl, BW13.out⟩


end Go.Proofs.YtjidkkehhglahaaDoor

/-
  The reference: right, eight; SameBytes of rows that may be unlike; append as an operation.
-/
import Derived.Test.YtkhaiiiioieglaaDoorSeM
import Derived.Test.YtkhaiiiioieglaaDoorC12
namespace Go.Proofs.YtkhaiiiioieglaaDoor
open Go.RowKit

set_option maxRecDepth 100000 in
theorem seal_right (e n : Int) (w : World) : Calls Tryd.prog 30 #[.int .i64 e, .int .i64 n] w fun r w' => r = .returned (.bool (inR e && inR n)) ∧ w' = w := by
  by_cases h0 : e ≥ 0
  · by_cases h1 : e ≤ 1099511627776
    · by_cases h2 : n ≥ 0
      · by_cases h3 : n ≤ 1099511627776
        · rw [show (inR e && inR n) = true by unfold inR; simp; omega]
          go_enter Tryd.func30, Tryd.ntmps30
          go_wp2
          go_ret
          exact ⟨rfl, rfl⟩
        · rw [show (inR e && inR n) = false by unfold inR; simp; omega]
          go_enter Tryd.func30, Tryd.ntmps30
          go_wp2
          go_ret
          exact ⟨rfl, rfl⟩
      · rw [show (inR e && inR n) = false by unfold inR; simp; omega]
        go_enter Tryd.func30, Tryd.ntmps30
        go_wp2
        go_ret
        exact ⟨rfl, rfl⟩
    · rw [show (inR e && inR n) = false by unfold inR; simp; omega]
      go_enter Tryd.func30, Tryd.ntmps30
      go_wp2
      go_ret
      exact ⟨rfl, rfl⟩
  · rw [show (inR e && inR n) = false by unfold inR; simp; omega]
    go_enter Tryd.func30, Tryd.ntmps30
    go_wp2
    go_ret
    exact ⟨rfl, rfl⟩

namespace Seal
def l8 (n : Int) : List Int := [n / 72057594037927936 % 256, n / 281474976710656 % 256, n / 1099511627776 % 256, n / 4294967296 % 256, n / 16777216 % 256, n / 65536 % 256, n / 256 % 256, n % 256]
theorem l8_eq (n : Int) : l8 n = be8 n := by unfold be8; rfl
end Seal
def EightSay (n : Int) (w : World) (e : Ending) (w' : World) : Prop :=
  ∃ g c, e = .returned (.slice (some ⟨g, 0, none⟩) 8 c) ∧ Hid (w'.ownsRow w.heap.size 5 1 (.slice (some ⟨g, 0, none⟩) 8 c) 8 (U8s (Seal.be8 n))) ∧ Below w.heap.size w w'
set_option maxHeartbeats 2000000 in
set_option maxRecDepth 100000 in
theorem eight_any (n : Int) (hn : 0 ≤ n ∧ n ≤ 9223372036854775807) (w : World) : Calls Tryd.prog 46 #[.int .i64 n] w (EightSay n w) := by
  obtain ⟨i0, hi, hz0, hz1, hz2⟩ := info_parts Tryd.info_u8
  go_enter Tryd.func46, Tryd.ntmps46
  go_wp2
  go_loopw [3, 4] (fun v i wr => ∃ k : Nat, k ≤ 8 ∧ i = .int .i64 (7 - (k : Int)) ∧ Hid (wr.ownsRow w.heap.size 5 1 v k (U8s ((Seal.l8 n).take k))) ∧ Hid (Below w.heap.size w wr)) (fun _ i _ => (intOf i + 1).toNat)
  case atStart => exact ⟨0, Nat.zero_le _, rfl, by unfold U8s; exact World.ownsRow_nil _ _ _ _, Below.refl _ _⟩
  case round =>
    obtain ⟨k, hk, rfl, HO, HB⟩ := hrel
    rcases (by omega : k = 0 ∨ k = 1 ∨ k = 2 ∨ k = 3 ∨ k = 4 ∨ k = 5 ∨ k = 6 ∨ k = 7 ∨ k = 8) with rfl | rfl | rfl | rfl | rfl | rfl | rfl | rfl | rfl
    · go_wp2_with (first
        | (at_builtin; refine wpList_append_own _ rfl _ _ 22 rfl w.heap.size 5 i0 (.int .u8 0) 1 1 Tryd.underlying22 hi hz0 hz1 hz2 rfl (by decide) _ _ _ rfl (HO.out.alloc _) ⟨wr.heap.size, 0, none⟩ 1 1 [.int .u8 _] rfl rfl (u8_cell1 _ _ _) (u8_oneX _) (by unfold maxLen; omega) (by omega) (by have := HB.out.size; simp; omega) ?_)
        | go_in)
      intro v' w1 hown' hgrow _
      have hb1 := below_own HB.out (HB.out.size) HO.out hgrow
      rw [U8s_snoc] at hown'
      have H1 : Hid (w1.ownsRow w.heap.size 5 1 v' 1 (U8s ((Seal.l8 n).take 1))) := by show World.ownsRow _ _ _ _ _ _ _; rw [show (Seal.l8 n).take 1 = [n / 72057594037927936] from by unfold Seal.l8; rw [show n / 72057594037927936 % 256 = n / 72057594037927936 by omega]; rfl]; exact hown'
      clear hgrow HO HB hown'
      go_wp2
      exact ⟨⟨1, by omega, rfl, H1.out, hb1⟩, by simp [intOf]⟩
    · go_wp2_with (first
        | (at_builtin; refine wpList_append_own _ rfl _ _ 22 rfl w.heap.size 5 i0 (.int .u8 0) 1 1 Tryd.underlying22 hi hz0 hz1 hz2 rfl (by decide) _ _ _ rfl (HO.out.alloc _) ⟨wr.heap.size, 0, none⟩ 1 1 [.int .u8 _] rfl rfl (u8_cell1 _ _ _) (u8_oneX _) (by unfold maxLen; omega) (by omega) (by have := HB.out.size; simp; omega) ?_)
        | go_in)
      intro v' w1 hown' hgrow _
      have hb1 := below_own HB.out (HB.out.size) HO.out hgrow
      rw [U8s_snoc] at hown'
      have H1 : Hid (w1.ownsRow w.heap.size 5 1 v' 2 (U8s ((Seal.l8 n).take 2))) := hown'
      clear hgrow HO HB hown'
      go_wp2
      exact ⟨⟨2, by omega, rfl, H1.out, hb1⟩, by simp [intOf]⟩
    · go_wp2_with (first
        | (at_builtin; refine wpList_append_own _ rfl _ _ 22 rfl w.heap.size 5 i0 (.int .u8 0) 1 1 Tryd.underlying22 hi hz0 hz1 hz2 rfl (by decide) _ _ _ rfl (HO.out.alloc _) ⟨wr.heap.size, 0, none⟩ 1 1 [.int .u8 _] rfl rfl (u8_cell1 _ _ _) (u8_oneX _) (by unfold maxLen; omega) (by omega) (by have := HB.out.size; simp; omega) ?_)
        | go_in)
      intro v' w1 hown' hgrow _
      have hb1 := below_own HB.out (HB.out.size) HO.out hgrow
      rw [U8s_snoc] at hown'
      have H1 : Hid (w1.ownsRow w.heap.size 5 1 v' 3 (U8s ((Seal.l8 n).take 3))) := hown'
      clear hgrow HO HB hown'
      go_wp2
      exact ⟨⟨3, by omega, rfl, H1.out, hb1⟩, by simp [intOf]⟩
    · go_wp2_with (first
        | (at_builtin; refine wpList_append_own _ rfl _ _ 22 rfl w.heap.size 5 i0 (.int .u8 0) 1 1 Tryd.underlying22 hi hz0 hz1 hz2 rfl (by decide) _ _ _ rfl (HO.out.alloc _) ⟨wr.heap.size, 0, none⟩ 1 1 [.int .u8 _] rfl rfl (u8_cell1 _ _ _) (u8_oneX _) (by unfold maxLen; omega) (by omega) (by have := HB.out.size; simp; omega) ?_)
        | go_in)
      intro v' w1 hown' hgrow _
      have hb1 := below_own HB.out (HB.out.size) HO.out hgrow
      rw [U8s_snoc] at hown'
      have H1 : Hid (w1.ownsRow w.heap.size 5 1 v' 4 (U8s ((Seal.l8 n).take 4))) := hown'
      clear hgrow HO HB hown'
      go_wp2
      exact ⟨⟨4, by omega, rfl, H1.out, hb1⟩, by simp [intOf]⟩
    · go_wp2_with (first
        | (at_builtin; refine wpList_append_own _ rfl _ _ 22 rfl w.heap.size 5 i0 (.int .u8 0) 1 1 Tryd.underlying22 hi hz0 hz1 hz2 rfl (by decide) _ _ _ rfl (HO.out.alloc _) ⟨wr.heap.size, 0, none⟩ 1 1 [.int .u8 _] rfl rfl (u8_cell1 _ _ _) (u8_oneX _) (by unfold maxLen; omega) (by omega) (by have := HB.out.size; simp; omega) ?_)
        | go_in)
      intro v' w1 hown' hgrow _
      have hb1 := below_own HB.out (HB.out.size) HO.out hgrow
      rw [U8s_snoc] at hown'
      have H1 : Hid (w1.ownsRow w.heap.size 5 1 v' 5 (U8s ((Seal.l8 n).take 5))) := hown'
      clear hgrow HO HB hown'
      go_wp2
      exact ⟨⟨5, by omega, rfl, H1.out, hb1⟩, by simp [intOf]⟩
    · go_wp2_with (first
        | (at_builtin; refine wpList_append_own _ rfl _ _ 22 rfl w.heap.size 5 i0 (.int .u8 0) 1 1 Tryd.underlying22 hi hz0 hz1 hz2 rfl (by decide) _ _ _ rfl (HO.out.alloc _) ⟨wr.heap.size, 0, none⟩ 1 1 [.int .u8 _] rfl rfl (u8_cell1 _ _ _) (u8_oneX _) (by unfold maxLen; omega) (by omega) (by have := HB.out.size; simp; omega) ?_)
        | go_in)
      intro v' w1 hown' hgrow _
      have hb1 := below_own HB.out (HB.out.size) HO.out hgrow
      rw [U8s_snoc] at hown'
      have H1 : Hid (w1.ownsRow w.heap.size 5 1 v' 6 (U8s ((Seal.l8 n).take 6))) := hown'
      clear hgrow HO HB hown'
      go_wp2
      exact ⟨⟨6, by omega, rfl, H1.out, hb1⟩, by simp [intOf]⟩
    · go_wp2_with (first
        | (at_builtin; refine wpList_append_own _ rfl _ _ 22 rfl w.heap.size 5 i0 (.int .u8 0) 1 1 Tryd.underlying22 hi hz0 hz1 hz2 rfl (by decide) _ _ _ rfl (HO.out.alloc _) ⟨wr.heap.size, 0, none⟩ 1 1 [.int .u8 _] rfl rfl (u8_cell1 _ _ _) (u8_oneX _) (by unfold maxLen; omega) (by omega) (by have := HB.out.size; simp; omega) ?_)
        | go_in)
      intro v' w1 hown' hgrow _
      have hb1 := below_own HB.out (HB.out.size) HO.out hgrow
      rw [U8s_snoc] at hown'
      have H1 : Hid (w1.ownsRow w.heap.size 5 1 v' 7 (U8s ((Seal.l8 n).take 7))) := hown'
      clear hgrow HO HB hown'
      go_wp2
      exact ⟨⟨7, by omega, rfl, H1.out, hb1⟩, by simp [intOf]⟩
    · go_wp2_with (first
        | (at_builtin; refine wpList_append_own _ rfl _ _ 22 rfl w.heap.size 5 i0 (.int .u8 0) 1 1 Tryd.underlying22 hi hz0 hz1 hz2 rfl (by decide) _ _ _ rfl (HO.out.alloc _) ⟨wr.heap.size, 0, none⟩ 1 1 [.int .u8 _] rfl rfl (u8_cell1 _ _ _) (u8_oneX _) (by unfold maxLen; omega) (by omega) (by have := HB.out.size; simp; omega) ?_)
        | go_in)
      intro v' w1 hown' hgrow _
      have hb1 := below_own HB.out (HB.out.size) HO.out hgrow
      rw [U8s_snoc] at hown'
      have H1 : Hid (w1.ownsRow w.heap.size 5 1 v' 8 (U8s ((Seal.l8 n).take 8))) := hown'
      clear hgrow HO HB hown'
      go_wp2
      exact ⟨⟨8, by omega, rfl, H1.out, hb1⟩, by simp [intOf]⟩
    · obtain ⟨g, c, hv⟩ := own_some HO.out (by decide)
      subst hv
      have HO2 : Hid (wr.ownsRow w.heap.size 5 1 (.slice (some ⟨g, 0, none⟩) 8 c) 8 (U8s (Seal.be8 n))) := by
        rw [← Seal.l8_eq]
        exact HO.out
      go_wp2
      go_ret
      exact ⟨g, c, rfl, HO2, HB.out⟩

set_option maxHeartbeats 1000000 in
set_option maxRecDepth 100000 in
/-- Are two rows the same? -/
theorem same_gen (L M : List Int) (p q : Option Addr) (n c d : Nat) (hn : L.length = n) (hm : M.length = n) (w : World) (hp : BAt w p L) (hq : BAt w q M) (hL : n ≤ 10000000) :
    Calls Tryd.prog 17 #[.slice p n c, .slice q n d] w fun r w' => r = .returned (.bool (decide (L = M))) ∧ Below w.heap.size w w' := by
  have Hp := Lib.hid hp; clear hp
  have Hq := Lib.hid hq; clear hq
  have Hn := Lib.hid (And.intro hn hm); clear hn hm
  go_enter Tryd.func17, Tryd.ntmps17
  go_wp2
  go_loopw [5] (fun v5 wr => ∃ k : Nat, k ≤ n ∧ v5 = .int .i64 k ∧ Hid (∀ j, j < k → L.getD j 0 = M.getD j 0) ∧ Hid (Below w.heap.size w wr)) (fun v5 _ => n - (intOf v5).toNat)
  case atStart => exact ⟨0, by omega, rfl, fun j hj => by omega, Below.refl _ _⟩
  case round =>
    obtain ⟨k, hk, rfl, HE, HB⟩ := hrel
    by_cases hlt : k < n
    · obtain ⟨ab, ao, hpp, hcs⟩ := (Hp.out.old HB.out).2 (by have := Hn.out; omega)
      obtain ⟨bb, bo, hqq, hds⟩ := (Hq.out.old HB.out).2 (by have := Hn.out; omega)
      subst hpp
      subst hqq
      have c0 := hcs k (by have := Hn.out; omega)
      have c1 := hds k (by have := Hn.out; omega)
      have hn : 0 ≤ (k : Int) := by omega
      have hm : (k : Int) < (n : Int) := by omega
      by_cases hxy : L.getD k 0 = M.getD k 0
      · have HE2 : Hid (∀ j, j < k + 1 → L.getD j 0 = M.getD j 0) := fun j hj => by
          by_cases h : j = k
          · subst h; exact hxy
          · exact HE.out j (by omega)
        rw [← hxy] at c1
        clear hxy hcs hds
        generalize L.getD k 0 = x at *
        go_wp2
        go_quiet (fail)
        go_wp2
        exact ⟨⟨k + 1, by omega, by go_num, HE2.out, below_dn HB.out _⟩, by simp [intOf]; omega⟩
      · have HNE : Hid (decide (L = M) = false) := by
          show _ = _
          rw [decide_eq_false_iff_not]
          rintro rfl
          exact hxy rfl
        clear hcs hds
        have hxy2 := hxy
        generalize L.getD k 0 = x at *
        generalize M.getD k 0 = y at *
        go_wp2
        go_quiet (fail)
        go_wp2
        go_ret
        exact ⟨congrArg (fun z => Ending.returned (Value.bool z)) HNE.out.symm, below_dn HB.out _⟩
    · have E : k = n := by omega
      have HEQ : Hid (decide (L = M) = true) := by
        show _ = _
        rw [decide_eq_true_iff]
        have hh := Hn.out
        apply List.ext_getElem (by omega)
        intro i h1 h2
        have := HE.out i (by omega)
        rw [List.getD_eq_getElem?_getD, List.getElem?_eq_getElem h1, List.getD_eq_getElem?_getD, List.getElem?_eq_getElem h2] at this
        simpa using this
      have hge : n ≤ k := by omega
      clear hlt E
      go_wp2
      go_ret
      exact ⟨congrArg (fun z => Ending.returned (Value.bool z)) HEQ.out.symm, HB.out⟩

/-- append of bytes, wherever they lie, as an operation of a region by hand. -/
theorem op_append_bts {ops : Array Oper} {a : Act} {w : World} {K : Act → World → Prop} {Q : Exit → Act → World → Prop} {D : Tmp} {T : TypeId} {ps : String} {af : Array Edge} (i : Nat) (s x : Operand) (ys : List Int) (base : Nat) (v : Value) (n : Nat) (l : List Int) (p : Option Addr) (m c : Nat)
    (ho : ops[i]? = some { dst := some D, op := Op.call { callee := Callee.builtin Builtin.append, args := #[s, x], argTypes := #[22, 22] }, type := T, pos := ps, after := af, guard := none }) (hs : a.eval s = v)
    (hx : a.eval x = .slice p m c) (hm : ys.length = m) (hc : Bs w p c ys) (hown : w.ownsRow base 5 1 v n (U8s l)) (hn : n + m ≤ 1000000000000) (hb : base ≤ w.heap.size)
    (hK : ∀ v' w', w'.ownsRow base 5 1 v' (n + m) (U8s (l ++ ys)) → w.grownBy w' v.ownBlock → K (a.put (some D) v') w') :
    wpOp Tryd.prog ops Q i K a w := by
  subst hm
  obtain ⟨i0, hi, hz0, hz1, hz2⟩ := info_parts Tryd.info_u8
  refine op_plain i _ ho rfl ?_
  cases p with
  | none =>
    obtain ⟨rfl, rfl⟩ := hc.nil rfl
    have hrun := run_append_owned_none (P := Tryd.prog) (w := w) base 22 T 5 i0 1 Tryd.underlying22 hi v n (U8s l) hown
    unfold Oper.wp
    simp only [List.length_nil] at hx
    simp [execOp, resolve, invoke, builtin, hs, hx, hrun, Result.andThen]
    exact hK v w (by rw [List.append_nil]; exact hown) ⟨rfl, rfl, rfl, Nat.le_refl _, fun _ _ _ => rfl⟩
  | some ad =>
    refine wp_append_own _ s x 22 rfl base 5 i0 (.int .u8 0) 1 1 Tryd.underlying22 hi hz0 hz1 hz2 rfl (by decide) v n (U8s l) hs hown ad ys.length c (ys.map (Value.int .u8)) hx (by simp) (bs_cells hc.bat) (bytes_one _) (by unfold maxLen; omega) (by omega) hb ?_
    intro v' w' h1 h2 _
    refine hK v' w' ?_ h2
    have e : U8s l ++ ys.map (Value.int .u8) = U8s (l ++ ys) := by unfold U8s; simp
    rw [← e]
    exact h1

set_option maxRecDepth 100000 in
/-- The reference's digest. -/
theorem refsum_any (b : List Int) (vg : Value) (p : Option Addr) (n c : Nat) (hn : b.length = n) (hnl : n ≤ 1000000) (w : World) (hb : Bs w p c b) (ht : Tab w 0) :
    Calls Tryd.prog 20 #[vg, .slice p n c] w (RowSay (Sha.dg b) w) := by
  subst hn
  have Ht := Lib.hid ht; clear ht
  have Hb := Lib.hid hb; clear hb
  have B0 : Hid (Below w.heap.size w (w.alloc (.cells (List.replicate 32 (Value.int .u8 0)).toArray 37))) := (Below.refl _ w).alloc (Nat.le_refl _) _
  have R0 : Hid ((w.alloc (.cells (List.replicate 32 (Value.int .u8 0)).toArray 37)).heap[w.heap.size]? = some (.cells (List.replicate 32 (Value.int .u8 0)).toArray 37 (0, 0))) := heap_alloc_new w _
  obtain ⟨A, HA1, HA2, HA3⟩ : ∃ A : Array Value, Hid (A = ((Sha.dg b).map (Value.int .u8)).toArray) ∧ Hid (A.size = 32) ∧ Hid (A.all (·.oneCell') = true) :=
    ⟨_, rfl, by show _ = _; simp [dg_len], all_oneCell_toArray (bytes_one _)⟩
  go_enter Tryd.func20, Tryd.ntmps20
  go_wp2_with (first
    | (go_at_call 34; refine (ref_of_any b p c _ (fun g hg => (Hb.out.old B0.out).bat.bytes g hg) hnl (Ht.out.below B0.out Ht.out.lt)).mono ?_; rintro e w1 ⟨rfl, hb1⟩; rw [← HA1.out]; have B1 : Hid (Below w.heap.size w w1) := B0.out.trans (hb1.mono B0.out.size); have R1 := Lib.hid ((hb1.block _ (lt_of_block R0.out)).trans R0.out); clear hb1)
    | ((with_reducible refine row_store _ _ _ _ _ _ _ ?_ ?_ R1.out (row_size Tryd.sizeSum HA2) ?_ HA3.out ?_); (exact rfl); (exact rfl); (rw [HA2.out]; rfl); intro w6 G6 ch6))
  refine bodyPost_ret (results_cell_row rfl _ _ w.heap.size 37 A (0, 0) _ rfl G6.out Tryd.underlying37 rfl (row_size Tryd.sizeSum HA2)) rfl ⟨?_, ch6.below B1.out (Nat.le_refl _)⟩
  rw [HA1.out]
end Go.Proofs.YtkhaiiiioieglaaDoor

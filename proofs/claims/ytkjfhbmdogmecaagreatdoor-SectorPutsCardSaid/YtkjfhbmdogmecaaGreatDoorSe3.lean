/-
  SeR, SeT, SeU, SeV, SeQ (merged)
-/
import Derived.Test.YtkjfhbmdogmecaaGreatDoorSeM
import Derived.Test.YtkjfhbmdogmecaaGreatDoorC12
namespace Go.Proofs.YtkjfhbmdogmecaaGreatDoor

/-! SeR: The reference: right, eight; SameBytes of rows that may be unlike; append as an operation. -/
section
open Go.RowKit

set_option maxRecDepth 100000 in
theorem seal_right (e n : Int) (w : World) : Calls Tryz.prog 63 #[.int .i64 e, .int .i64 n] w fun r w' => r = .returned (.bool (inR e && inR n)) ∧ w' = w := by
  by_cases h0 : e ≥ 0
  · by_cases h1 : e ≤ 1099511627776
    · by_cases h2 : n ≥ 0
      · by_cases h3 : n ≤ 1099511627776
        · rw [show (inR e && inR n) = true by unfold inR; simp; omega]
          go_enter Tryz.func63, Tryz.ntmps63
          go_wp2
          go_ret
          exact ⟨rfl, rfl⟩
        · rw [show (inR e && inR n) = false by unfold inR; simp; omega]
          go_enter Tryz.func63, Tryz.ntmps63
          go_wp2
          go_ret
          exact ⟨rfl, rfl⟩
      · rw [show (inR e && inR n) = false by unfold inR; simp; omega]
        go_enter Tryz.func63, Tryz.ntmps63
        go_wp2
        go_ret
        exact ⟨rfl, rfl⟩
    · rw [show (inR e && inR n) = false by unfold inR; simp; omega]
      go_enter Tryz.func63, Tryz.ntmps63
      go_wp2
      go_ret
      exact ⟨rfl, rfl⟩
  · rw [show (inR e && inR n) = false by unfold inR; simp; omega]
    go_enter Tryz.func63, Tryz.ntmps63
    go_wp2
    go_ret
    exact ⟨rfl, rfl⟩

namespace Seal
def l8 (n : Int) : List Int := [n / 72057594037927936 % 256, n / 281474976710656 % 256, n / 1099511627776 % 256, n / 4294967296 % 256, n / 16777216 % 256, n / 65536 % 256, n / 256 % 256, n % 256]
theorem l8_eq (n : Int) : l8 n = be8 n := by unfold be8; rfl
end Seal
def EightSay (n : Int) (w : World) (e : Ending) (w' : World) : Prop :=
  ∃ g c, e = .returned (.slice (some ⟨g, 0, none⟩) 8 c) ∧ Hid (w'.ownsRow w.heap.size 5 1 (.slice (some ⟨g, 0, none⟩) 8 c) 8 (U8s (Seal.be8 n))) ∧ Below w.heap.size w w'
set_option maxHeartbeats 2000000 in
set_option maxRecDepth 100000 in
theorem eight_any (n : Int) (hn : 0 ≤ n ∧ n ≤ 9223372036854775807) (w : World) : Calls Tryz.prog 85 #[.int .i64 n] w (EightSay n w) := by
  obtain ⟨i0, hi, hz0, hz1, hz2⟩ := info_parts Tryz.info_u8
  go_enter Tryz.func85, Tryz.ntmps85
  go_wp2
  go_loopw [3, 4] (fun v i wr => ∃ k : Nat, k ≤ 8 ∧ i = .int .i64 (7 - (k : Int)) ∧ Hid (wr.ownsRow w.heap.size 5 1 v k (U8s ((Seal.l8 n).take k))) ∧ Hid (Below w.heap.size w wr)) (fun _ i _ => (intOf i + 1).toNat)
  case atStart => exact ⟨0, Nat.zero_le _, rfl, by unfold U8s; exact World.ownsRow_nil _ _ _ _, Below.refl _ _⟩
  case round =>
    obtain ⟨k, hk, rfl, HO, HB⟩ := hrel
    rcases (by omega : k = 0 ∨ k = 1 ∨ k = 2 ∨ k = 3 ∨ k = 4 ∨ k = 5 ∨ k = 6 ∨ k = 7 ∨ k = 8) with rfl | rfl | rfl | rfl | rfl | rfl | rfl | rfl | rfl
    · go_wp2_with (first
        | (at_builtin; refine wpList_append_own _ rfl _ _ 22 rfl w.heap.size 5 i0 (.int .u8 0) 1 1 Tryz.underlying22 hi hz0 hz1 hz2 rfl (by decide) _ _ _ rfl (HO.out.alloc _) ⟨wr.heap.size, 0, none⟩ 1 1 [.int .u8 _] rfl rfl (u8_cell1 _ _ _) (u8_oneX _) (by unfold maxLen; omega) (by omega) (by have := HB.out.size; simp; omega) ?_)
        | go_in)
      intro v' w1 hown' hgrow _
      have hb1 := below_own HB.out (HB.out.size) HO.out hgrow
      rw [U8s_snoc] at hown'
      have H1 : Hid (w1.ownsRow w.heap.size 5 1 v' 1 (U8s ((Seal.l8 n).take 1))) := by show World.ownsRow _ _ _ _ _ _ _; rw [show (Seal.l8 n).take 1 = [n / 72057594037927936] from by unfold Seal.l8; rw [show n / 72057594037927936 % 256 = n / 72057594037927936 by omega]; rfl]; exact hown'
      clear hgrow HO HB hown'
      go_wp2
      exact ⟨⟨1, by omega, rfl, H1.out, hb1⟩, by simp [intOf]⟩
    · go_wp2_with (first
        | (at_builtin; refine wpList_append_own _ rfl _ _ 22 rfl w.heap.size 5 i0 (.int .u8 0) 1 1 Tryz.underlying22 hi hz0 hz1 hz2 rfl (by decide) _ _ _ rfl (HO.out.alloc _) ⟨wr.heap.size, 0, none⟩ 1 1 [.int .u8 _] rfl rfl (u8_cell1 _ _ _) (u8_oneX _) (by unfold maxLen; omega) (by omega) (by have := HB.out.size; simp; omega) ?_)
        | go_in)
      intro v' w1 hown' hgrow _
      have hb1 := below_own HB.out (HB.out.size) HO.out hgrow
      rw [U8s_snoc] at hown'
      have H1 : Hid (w1.ownsRow w.heap.size 5 1 v' 2 (U8s ((Seal.l8 n).take 2))) := hown'
      clear hgrow HO HB hown'
      go_wp2
      exact ⟨⟨2, by omega, rfl, H1.out, hb1⟩, by simp [intOf]⟩
    · go_wp2_with (first
        | (at_builtin; refine wpList_append_own _ rfl _ _ 22 rfl w.heap.size 5 i0 (.int .u8 0) 1 1 Tryz.underlying22 hi hz0 hz1 hz2 rfl (by decide) _ _ _ rfl (HO.out.alloc _) ⟨wr.heap.size, 0, none⟩ 1 1 [.int .u8 _] rfl rfl (u8_cell1 _ _ _) (u8_oneX _) (by unfold maxLen; omega) (by omega) (by have := HB.out.size; simp; omega) ?_)
        | go_in)
      intro v' w1 hown' hgrow _
      have hb1 := below_own HB.out (HB.out.size) HO.out hgrow
      rw [U8s_snoc] at hown'
      have H1 : Hid (w1.ownsRow w.heap.size 5 1 v' 3 (U8s ((Seal.l8 n).take 3))) := hown'
      clear hgrow HO HB hown'
      go_wp2
      exact ⟨⟨3, by omega, rfl, H1.out, hb1⟩, by simp [intOf]⟩
    · go_wp2_with (first
        | (at_builtin; refine wpList_append_own _ rfl _ _ 22 rfl w.heap.size 5 i0 (.int .u8 0) 1 1 Tryz.underlying22 hi hz0 hz1 hz2 rfl (by decide) _ _ _ rfl (HO.out.alloc _) ⟨wr.heap.size, 0, none⟩ 1 1 [.int .u8 _] rfl rfl (u8_cell1 _ _ _) (u8_oneX _) (by unfold maxLen; omega) (by omega) (by have := HB.out.size; simp; omega) ?_)
        | go_in)
      intro v' w1 hown' hgrow _
      have hb1 := below_own HB.out (HB.out.size) HO.out hgrow
      rw [U8s_snoc] at hown'
      have H1 : Hid (w1.ownsRow w.heap.size 5 1 v' 4 (U8s ((Seal.l8 n).take 4))) := hown'
      clear hgrow HO HB hown'
      go_wp2
      exact ⟨⟨4, by omega, rfl, H1.out, hb1⟩, by simp [intOf]⟩
    · go_wp2_with (first
        | (at_builtin; refine wpList_append_own _ rfl _ _ 22 rfl w.heap.size 5 i0 (.int .u8 0) 1 1 Tryz.underlying22 hi hz0 hz1 hz2 rfl (by decide) _ _ _ rfl (HO.out.alloc _) ⟨wr.heap.size, 0, none⟩ 1 1 [.int .u8 _] rfl rfl (u8_cell1 _ _ _) (u8_oneX _) (by unfold maxLen; omega) (by omega) (by have := HB.out.size; simp; omega) ?_)
        | go_in)
      intro v' w1 hown' hgrow _
      have hb1 := below_own HB.out (HB.out.size) HO.out hgrow
      rw [U8s_snoc] at hown'
      have H1 : Hid (w1.ownsRow w.heap.size 5 1 v' 5 (U8s ((Seal.l8 n).take 5))) := hown'
      clear hgrow HO HB hown'
      go_wp2
      exact ⟨⟨5, by omega, rfl, H1.out, hb1⟩, by simp [intOf]⟩
    · go_wp2_with (first
        | (at_builtin; refine wpList_append_own _ rfl _ _ 22 rfl w.heap.size 5 i0 (.int .u8 0) 1 1 Tryz.underlying22 hi hz0 hz1 hz2 rfl (by decide) _ _ _ rfl (HO.out.alloc _) ⟨wr.heap.size, 0, none⟩ 1 1 [.int .u8 _] rfl rfl (u8_cell1 _ _ _) (u8_oneX _) (by unfold maxLen; omega) (by omega) (by have := HB.out.size; simp; omega) ?_)
        | go_in)
      intro v' w1 hown' hgrow _
      have hb1 := below_own HB.out (HB.out.size) HO.out hgrow
      rw [U8s_snoc] at hown'
      have H1 : Hid (w1.ownsRow w.heap.size 5 1 v' 6 (U8s ((Seal.l8 n).take 6))) := hown'
      clear hgrow HO HB hown'
      go_wp2
      exact ⟨⟨6, by omega, rfl, H1.out, hb1⟩, by simp [intOf]⟩
    · go_wp2_with (first
        | (at_builtin; refine wpList_append_own _ rfl _ _ 22 rfl w.heap.size 5 i0 (.int .u8 0) 1 1 Tryz.underlying22 hi hz0 hz1 hz2 rfl (by decide) _ _ _ rfl (HO.out.alloc _) ⟨wr.heap.size, 0, none⟩ 1 1 [.int .u8 _] rfl rfl (u8_cell1 _ _ _) (u8_oneX _) (by unfold maxLen; omega) (by omega) (by have := HB.out.size; simp; omega) ?_)
        | go_in)
      intro v' w1 hown' hgrow _
      have hb1 := below_own HB.out (HB.out.size) HO.out hgrow
      rw [U8s_snoc] at hown'
      have H1 : Hid (w1.ownsRow w.heap.size 5 1 v' 7 (U8s ((Seal.l8 n).take 7))) := hown'
      clear hgrow HO HB hown'
      go_wp2
      exact ⟨⟨7, by omega, rfl, H1.out, hb1⟩, by simp [intOf]⟩
    · go_wp2_with (first
        | (at_builtin; refine wpList_append_own _ rfl _ _ 22 rfl w.heap.size 5 i0 (.int .u8 0) 1 1 Tryz.underlying22 hi hz0 hz1 hz2 rfl (by decide) _ _ _ rfl (HO.out.alloc _) ⟨wr.heap.size, 0, none⟩ 1 1 [.int .u8 _] rfl rfl (u8_cell1 _ _ _) (u8_oneX _) (by unfold maxLen; omega) (by omega) (by have := HB.out.size; simp; omega) ?_)
        | go_in)
      intro v' w1 hown' hgrow _
      have hb1 := below_own HB.out (HB.out.size) HO.out hgrow
      rw [U8s_snoc] at hown'
      have H1 : Hid (w1.ownsRow w.heap.size 5 1 v' 8 (U8s ((Seal.l8 n).take 8))) := hown'
      clear hgrow HO HB hown'
      go_wp2
      exact ⟨⟨8, by omega, rfl, H1.out, hb1⟩, by simp [intOf]⟩
    · obtain ⟨g, c, hv⟩ := own_some HO.out (by decide)
      subst hv
      have HO2 : Hid (wr.ownsRow w.heap.size 5 1 (.slice (some ⟨g, 0, none⟩) 8 c) 8 (U8s (Seal.be8 n))) := by
        rw [← Seal.l8_eq]
        exact HO.out
      go_wp2
      go_ret
      exact ⟨g, c, rfl, HO2, HB.out⟩

set_option maxHeartbeats 1000000 in
set_option maxRecDepth 100000 in
/-- Are two rows the same? -/
theorem same_gen (L M : List Int) (p q : Option Addr) (n c d : Nat) (hn : L.length = n) (hm : M.length = n) (w : World) (hp : BAt w p L) (hq : BAt w q M) (hL : n ≤ 10000000) :
    Calls Tryz.prog 12 #[.slice p n c, .slice q n d] w fun r w' => r = .returned (.bool (decide (L = M))) ∧ Below w.heap.size w w' := by
  have Hp := Lib.hid hp; clear hp
  have Hq := Lib.hid hq; clear hq
  have Hn := Lib.hid (And.intro hn hm); clear hn hm
  go_enter Tryz.func12, Tryz.ntmps12
  go_wp2
  go_loopw [5] (fun v5 wr => ∃ k : Nat, k ≤ n ∧ v5 = .int .i64 k ∧ Hid (∀ j, j < k → L.getD j 0 = M.getD j 0) ∧ Hid (Below w.heap.size w wr)) (fun v5 _ => n - (intOf v5).toNat)
  case atStart => exact ⟨0, by omega, rfl, fun j hj => by omega, Below.refl _ _⟩
  case round =>
    obtain ⟨k, hk, rfl, HE, HB⟩ := hrel
    by_cases hlt : k < n
    · obtain ⟨ab, ao, hpp, hcs⟩ := (Hp.out.old HB.out).2 (by have := Hn.out; omega)
      obtain ⟨bb, bo, hqq, hds⟩ := (Hq.out.old HB.out).2 (by have := Hn.out; omega)
      subst hpp
      subst hqq
      have c0 := hcs k (by have := Hn.out; omega)
      have c1 := hds k (by have := Hn.out; omega)
      have hn : 0 ≤ (k : Int) := by omega
      have hm : (k : Int) < (n : Int) := by omega
      by_cases hxy : L.getD k 0 = M.getD k 0
      · have HE2 : Hid (∀ j, j < k + 1 → L.getD j 0 = M.getD j 0) := fun j hj => by
          by_cases h : j = k
          · subst h; exact hxy
          · exact HE.out j (by omega)
        rw [← hxy] at c1
        clear hxy hcs hds
        generalize L.getD k 0 = x at *
        go_wp2
        go_quiet (fail)
        go_wp2
        exact ⟨⟨k + 1, by omega, by go_num, HE2.out, below_dn HB.out _⟩, by simp [intOf]; omega⟩
      · have HNE : Hid (decide (L = M) = false) := by
          show _ = _
          rw [decide_eq_false_iff_not]
          rintro rfl
          exact hxy rfl
        clear hcs hds
        have hxy2 := hxy
        generalize L.getD k 0 = x at *
        generalize M.getD k 0 = y at *
        go_wp2
        go_quiet (fail)
        go_wp2
        go_ret
        exact ⟨congrArg (fun z => Ending.returned (Value.bool z)) HNE.out.symm, below_dn HB.out _⟩
    · have E : k = n := by omega
      have HEQ : Hid (decide (L = M) = true) := by
        show _ = _
        rw [decide_eq_true_iff]
        have hh := Hn.out
        apply List.ext_getElem (by omega)
        intro i h1 h2
        have := HE.out i (by omega)
        rw [List.getD_eq_getElem?_getD, List.getElem?_eq_getElem h1, List.getD_eq_getElem?_getD, List.getElem?_eq_getElem h2] at this
        simpa using this
      have hge : n ≤ k := by omega
      clear hlt E
      go_wp2
      go_ret
      exact ⟨congrArg (fun z => Ending.returned (Value.bool z)) HEQ.out.symm, HB.out⟩

/-- append of bytes, wherever they lie, as an operation of a region by hand. -/
theorem op_append_bts {ops : Array Oper} {a : Act} {w : World} {K : Act → World → Prop} {Q : Exit → Act → World → Prop} {D : Tmp} {T : TypeId} {ps : String} {af : Array Edge} (i : Nat) (s x : Operand) (ys : List Int) (base : Nat) (v : Value) (n : Nat) (l : List Int) (p : Option Addr) (m c : Nat)
    (ho : ops[i]? = some { dst := some D, op := Op.call { callee := Callee.builtin Builtin.append, args := #[s, x], argTypes := #[22, 22] }, type := T, pos := ps, after := af, guard := none }) (hs : a.eval s = v)
    (hx : a.eval x = .slice p m c) (hm : ys.length = m) (hc : Bs w p c ys) (hown : w.ownsRow base 5 1 v n (U8s l)) (hn : n + m ≤ 1000000000000) (hb : base ≤ w.heap.size)
    (hK : ∀ v' w', w'.ownsRow base 5 1 v' (n + m) (U8s (l ++ ys)) → w.grownBy w' v.ownBlock → K (a.put (some D) v') w') :
    wpOp Tryz.prog ops Q i K a w := by
  subst hm
  obtain ⟨i0, hi, hz0, hz1, hz2⟩ := info_parts Tryz.info_u8
  refine op_plain i _ ho rfl ?_
  cases p with
  | none =>
    obtain ⟨rfl, rfl⟩ := hc.nil rfl
    have hrun := run_append_owned_none (P := Tryz.prog) (w := w) base 22 T 5 i0 1 Tryz.underlying22 hi v n (U8s l) hown
    unfold Oper.wp
    simp only [List.length_nil] at hx
    simp [execOp, resolve, invoke, builtin, hs, hx, hrun, Result.andThen]
    exact hK v w (by rw [List.append_nil]; exact hown) ⟨rfl, rfl, rfl, Nat.le_refl _, fun _ _ _ => rfl⟩
  | some ad =>
    refine wp_append_own _ s x 22 rfl base 5 i0 (.int .u8 0) 1 1 Tryz.underlying22 hi hz0 hz1 hz2 rfl (by decide) v n (U8s l) hs hown ad ys.length c (ys.map (Value.int .u8)) hx (by simp) (bs_cells hc.bat) (bytes_one _) (by unfold maxLen; omega) (by omega) hb ?_
    intro v' w' h1 h2 _
    refine hK v' w' ?_ h2
    have e : U8s l ++ ys.map (Value.int .u8) = U8s (l ++ ys) := by unfold U8s; simp
    rw [← e]
    exact h1
end

/-! SeT: The reference's box: in memory; contracts: New, Tag. -/
section
open Go.RowKit

theorem bs_own {w : World} {B m c : Nat} {p : Option Addr} {l : List Int} (h : w.ownsRow B 5 1 (.slice p m c) m (U8s l)) (hb : Sha.Byt l) : Bs w p c l := by
  obtain ⟨p', c', h1, h2, _⟩ := own_bs h hb
  injection h1 with e1 e2 e3
  rw [e1, e3]
  exact h2
theorem RCiphB.mono {B B' : Nat} {w : World} {g n : Nat} {R : List Int} (h : RCiphB B' w g n R) (hb : B ≤ B') : RCiphB B w g n R := by
  obtain ⟨h0, wb, wc, tb, tc, h1, h2, h3, h4, h5⟩ := h
  refine ⟨by omega, wb, wc, tb, tc, by omega, by omega, h3, fun i hi => ?_, h5⟩
  obtain ⟨b, c, q0, q1⟩ := h4 i hi
  exact ⟨b, c, by omega, q1⟩
theorem RCiphB.grown {B : Nat} {w x : World} {g n : Nat} {R : List Int} (h : RCiphB B w g n R) (O : Obj) (hg : (w.alloc O).grownBy x (some w.heap.size)) : RCiphB B x g n R :=
  h.same fun k _ hk2 => (hg.block k (by have e : (w.alloc O).heap.size = w.heap.size + 1 := (by simp); omega) (fun e => by have e2 := Option.some.inj e; omega)).trans (heap_alloc_old _ _ hk2)
/-- The reference's box of a key, all of it from block B on. -/
def RBox (B : Nat) (w : World) (g : Nat) (K : List Int) : Prop :=
  ∃ d q cq, B ≤ g ∧ B ≤ q ∧ 32 ≤ cq ∧ cq ≤ 9223372036854775807 ∧ w.heap[g]? = some (.cells #[.pointer (some ⟨d, 0, none⟩), .slice (some ⟨q, 0, none⟩) 32 cq] 93 (0, 0)) ∧
    (∀ j, j < 32 → w.cell? ⟨q, j, none⟩ = some (.int .u8 ((Seal.k2 K).getD j 0))) ∧ RCiphB B w d (4 * (4 + 7)) (Aes.up (Aes.rb (Aes.kyl (Seal.k1 K) 4)) (16 * (4 + 7)))
theorem RBox.keep {B : Nat} {w x : World} {g : Nat} {K : List Int} (h : RBox B w g K) (hb : Below w.heap.size w x) : RBox B x g K := by
  obtain ⟨d, q, cq, h0, h1, h2, h3, h4, h5, h6⟩ := h
  exact ⟨d, q, cq, h0, h1, h2, h3, (hb.block _ (lt_of_block h4)).trans h4, fun j hj => (hb.cell (World.block_lt_of_cell? w _ (h5 j hj))).trans (h5 j hj), h6.keep hb⟩
theorem RBox.only {B : Nat} {w x : World} {g j : Nat} {K : List Int} (h : RBox B w g K) (ho : Only j w x) (hj : j < B) : RBox B x g K := by
  obtain ⟨d, q, cq, h0, h1, h2, h3, h4, h5, h6⟩ := h
  exact ⟨d, q, cq, h0, h1, h2, h3, (ho.block _ (lt_of_block h4) (by omega)).trans h4, fun i hi => ho.cell (by show q ≠ j; omega) (h5 i hi), h6.only ho hj⟩
theorem k1_byt (K : List Int) : Sha.Byt (Seal.k1 K) := by
  unfold Seal.k1
  exact fun x hx => hm_byt _ _ x (List.mem_of_mem_take hx)

def RNewBox (K : List Int) (w : World) (e : Ending) (w' : World) : Prop :=
  ∃ g, e = .returned (.pointer (some ⟨g, 0, none⟩)) ∧ Hid (RBox w.heap.size w' g K) ∧ Below w.heap.size w w'
set_option maxHeartbeats 2000000 in
set_option maxRecDepth 100000 in
theorem refbox_any (K : List Int) (p : Option Addr) (n c : Nat) (hn : K.length = n) (hnl : n ≤ 100000) (w : World) (hp : Bs w p c K) (ht : Tab w 1) :
    Calls Tryz.prog 21 #[.slice p n c] w (RNewBox K w) := by
  subst hn
  have Ht := Lib.hid ht; clear ht
  have Hp := Lib.hid hp; clear hp
  have HD1 : Hid (∀ x, Below w.heap.size w x → Calls Tryz.prog 40 #[.slice p K.length c, .string { data := #[101, 110, 99, 114, 121, 112, 116] }] x (HmSay K (bl Seal.encS) x)) := fun x hx =>
    ref2_derive_any K Seal.encS p K.length c rfl hnl (by decide) x ((Hp.out.old hx).bat) Hp.out.cap.1 Hp.out.cap.2 (Ht.out.below hx Ht.out.lt)
  have HD2 : Hid (∀ x, Below w.heap.size w x → Calls Tryz.prog 40 #[.slice p K.length c, .string { data := #[97, 117, 116, 104, 101, 110, 116, 105, 99, 97, 116, 101] }] x (HmSay K (bl Seal.autS) x)) := fun x hx =>
    ref2_derive_any K Seal.autS p K.length c rfl hnl (by decide) x ((Hp.out.old hx).bat) Hp.out.cap.1 Hp.out.cap.2 (Ht.out.below hx Ht.out.lt)
  obtain ⟨A, HA1, HA2, HA3⟩ : ∃ A : Array Value, Hid (A = ((hm K (bl Seal.encS)).map (Value.int .u8)).toArray) ∧ Hid (A.size = 32) ∧ Hid (A.all (·.oneCell') = true) :=
    ⟨_, rfl, by show _ = _; simp [hm_len], all_oneCell_toArray (bytes_one _)⟩
  obtain ⟨B, HB1, HB2, HB3⟩ : ∃ A : Array Value, Hid (A = ((hm K (bl Seal.autS)).map (Value.int .u8)).toArray) ∧ Hid (A.size = 32) ∧ Hid (A.all (·.oneCell') = true) :=
    ⟨_, rfl, by show _ = _; simp [hm_len], all_oneCell_toArray (bytes_one _)⟩
  have HN : Hid (∀ g x, x.heap[g]? = some (.cells A 48 (0, 0)) → Calls Tryz.prog 41 #[.slice (some ⟨g, 0, none⟩) 16 32] x fun e x' => ∃ d, e = .returned (.tuple #[.pointer (some ⟨d, 0, none⟩), .int .i64 0]) ∧ Hid (RCiphB x.heap.size x' d (4 * (4 + 7)) (Aes.up (Aes.rb (Aes.kyl (Seal.k1 K) 4)) (16 * (4 + 7)))) ∧ Hid (Below x.heap.size x x')) := fun g x hx => by
    rw [HA1.out] at hx
    have hb : BAt x (some ⟨g, 0, none⟩) (Seal.k1 K) := by unfold Seal.k1; exact (bat_row hx (hm_byt _ _)).take 16
    refine (refnew_any (Seal.k1 K) 4 (by omega) (Seal.k1_len K) _ 32 (by omega) (by omega) x hb).mono ?_
    rintro e x' ⟨d, h1, h2, h3⟩
    exact ⟨d, h1, h2, h3⟩
  have HK2 : Hid (∀ g x, x.heap[g]? = some (.cells B 48 (0, 0)) → Bs x (some ⟨g, 0, none⟩) 32 (Seal.k2 K)) := fun g x hx => by
    rw [HB1.out] at hx
    refine bs_row (by unfold Seal.k2; exact bat_row hx (hm_byt _ _)) ⟨by rw [Seal.k2_len]; exact Nat.le_refl _, by omega⟩
  go_enter Tryz.func21, Tryz.ntmps21
  go_upto_region 4 with (first
    | (go_at_call 40; refine (HD1.out _ (Below.refl _ w)).mono ?_; rintro e1 w1 ⟨rfl, hb1⟩; rw [← HA1.out]; have B1 := Lib.hid hb1; clear hb1 HD1)
    | ((with_reducible refine row_store _ _ _ _ _ _ _ ?_ ?_ (heap_alloc_new _ _) (row_size Tryz.sizeSum HA2) ?_ HA3.out ?_); (exact rfl); (exact rfl); (rw [HA2.out]; rfl); intro w2 G2 ch2; have B2 : Hid (Below w.heap.size w w2) := ch2.below (B1.out.alloc B1.out.size _) B1.out.size; clear ch2)
    | (go_at_call 40; refine (HD2.out _ B2.out).mono ?_; rintro e3 w3 ⟨rfl, hb3⟩; rw [← HB1.out]; have B3 : Hid (Below w.heap.size w w3) := B2.out.trans (hb3.mono B2.out.size); have G3 := Lib.hid ((hb3.block _ (lt_of_block G2.out)).trans G2.out); clear hb3 HD2)
    | ((with_reducible refine row_store _ _ _ _ _ _ _ ?_ ?_ (heap_alloc_new _ _) (row_size Tryz.sizeSum HB2) ?_ HB3.out ?_); (exact rfl); (exact rfl); (rw [HB2.out]; rfl); intro w4 G4 ch4; have B34 : Hid (Below w3.heap.size w3 w4) := ch4.below ((Below.refl _ w3).alloc (Nat.le_refl _) _) (Nat.le_refl _); have B4 : Hid (Below w.heap.size w w4) := B3.out.trans (B34.out.mono B3.out.size); have G4A := Lib.hid ((B34.out.block _ (lt_of_block G3.out)).trans G3.out); clear ch4)
    | (go_at_call 41; refine (HN.out _ _ G4A.out).mono ?_; rintro e5 w5 ⟨d, rfl, HC5, hb5⟩; have B5 : Hid (Below w.heap.size w w5) := B4.out.trans (hb5.out.mono B4.out.size); have G5 := Lib.hid ((hb5.out.block _ (lt_of_block G4.out)).trans G4.out); have HC5' : Hid (RCiphB w.heap.size w5 d (4 * (4 + 7)) (Aes.up (Aes.rb (Aes.kyl (Seal.k1 K) 4)) (16 * (4 + 7)))) := HC5.out.mono B4.out.size; have BE : Hid (Below w5.heap.size w5 (w5.alloc (.cells #[] 5))) := (Below.refl _ w5).alloc (Nat.le_refl _) _; have BS5 := Lib.hid ((HK2.out _ _ G5.out).old BE.out); have OE := Lib.hid (own_empty w5 w.heap.size B5.out.size); have BW := Lib.hid (B5.out.trans (BE.out.mono B5.out.size)); clear hb5 HN HC5))
  go_wp2_with (at_builtin; refine append_bts _ _ (Seal.k2 K) w.heap.size _ 0 [] _ 32 32 rfl rfl (Seal.k2_len K) BS5.out OE.out (by omega) BW.out.size ?_; intro v6 w6 ho6 hg6; have B6 : Hid (Below w.heap.size w w6) := BW.out.grown hg6 BW.out.size (fun q hq => (OE.out.lt q hq).1); have HC6 : Hid (RCiphB w.heap.size w6 d (4 * (4 + 7)) (Aes.up (Aes.rb (Aes.kyl (Seal.k1 K) 4)) (16 * (4 + 7)))) := HC5'.out.grown _ hg6; rw [List.nil_append] at ho6; obtain ⟨q6, c6, rfl⟩ := own_some ho6 (by omega); have O6 := Lib.hid ho6; clear ho6 hg6)
  go_ret
  have BZ : Below w6.heap.size w6 (w6.alloc (.cells #[.pointer (some ⟨d, 0, none⟩), .slice (some ⟨q6, 0, none⟩) 32 c6] 93)) := (Below.refl _ w6).alloc (Nat.le_refl _) _
  obtain ⟨hc1, hc2⟩ := own_cap O6.out
  refine ⟨w6.heap.size, rfl, ⟨d, q6, c6, B6.out.size, (O6.out.lt q6 rfl).1, by omega, by unfold maxLen at hc2; omega, heap_alloc_new _ _, fun j hj => ?_, HC6.out.keep BZ⟩, B6.out.trans (BZ.mono B6.out.size)⟩
  have h1 := u8_at O6.out j (by omega)
  exact (BZ.cell (World.block_lt_of_cell? w6 _ h1)).trans h1
end

/-! SeU: The reference's Tag. -/
section
open Go.RowKit

theorem rbox_key {B : Nat} {w : World} {g : Nat} {K : List Int} (h : RBox B w g K) : ∃ q cq, w.cell? ⟨g, 1, none⟩ = some (.slice (some ⟨q, 0, none⟩) 32 cq) ∧ Bs w (some ⟨q, 0, none⟩) cq (Seal.k2 K) := by
  obtain ⟨d, q, cq, h0, h1, h2, h3, h4, h5, h6⟩ := h
  refine ⟨q, cq, by rw [cell_of_row w g 1 _ _ _ h4]; rfl, bs_row ⟨Seal.k2_byt K, fun _ => ⟨q, 0, rfl, fun j hj => ?_⟩⟩ ⟨by rw [Seal.k2_len]; exact h2, h3⟩⟩
  rw [Nat.zero_add]
  exact h5 j (by rw [Seal.k2_len] at hj; exact hj)

theorem rbox_lt {B : Nat} {w : World} {g : Nat} {K : List Int} (h : RBox B w g K) : g < w.heap.size := by
  obtain ⟨d, q, cq, h0, h1, h2, h3, h4, h5, h6⟩ := h
  exact lt_of_block h4
theorem own_base {w : World} {B B' n s : Nat} {e : TypeId} {v : Value} {xs : List Value} (h : w.ownsRow B' e s v n xs) (hb : B ≤ B') : w.ownsRow B e s v n xs := by
  refine ⟨h.1, ?_⟩
  rcases h.2 with h1 | ⟨g, cap, cur, h1, h2, h3⟩
  · exact Or.inl h1
  · exact Or.inr ⟨g, cap, cur, h1, Nat.le_trans hb h2, h3⟩

set_option maxHeartbeats 4000000 in
set_option maxRecDepth 100000 in
theorem reftag_any (K h t : List Int) (B g : Nat) (e n : Int) (he : 0 ≤ e ∧ e ≤ 9223372036854775807) (hn : 0 ≤ n ∧ n ≤ 9223372036854775807) (ph pt : Option Addr) (nh nt ch ct : Nat) (hnh : h.length = nh) (hnt : t.length = nt)
    (w : World) (hg : RBox B w g K) (hh : Bs w ph ch h) (htt : Bs w pt ct t) (hl : nh + nt ≤ 90000) (htb : Tab w 1) :
    Calls Tryz.prog 65 #[.pointer (some ⟨g, 0, none⟩), .int .i64 e, .int .i64 n, .slice ph nh ch, .slice pt nt ct] w (RowSay (Seal.tg K e n h t) w) := by
  have Ht := Lib.hid htb; clear htb
  have Hg := Lib.hid hg; clear hg
  have Hh := Lib.hid hh; clear hh
  have Htt := Lib.hid htt; clear htt
  have Hnh := Lib.hid (And.intro hnh hnt); clear hnh hnt
  have Hl := Lib.hid hl; clear hl
  have He := Lib.hid he; clear he
  have Hn := Lib.hid hn; clear hn
  have HT0 : Hid (∀ x, Calls Tryz.prog 85 #[.int .i64 (nh : Nat)] x (EightSay (nh : Nat) x)) := fun x => eight_any _ ⟨by omega, by have := Hl.out; omega⟩ x
  have HT1 : Hid (∀ x, Calls Tryz.prog 85 #[.int .i64 e] x (EightSay e x)) := fun x => eight_any _ He.out x
  have HT2 : Hid (∀ x, Calls Tryz.prog 85 #[.int .i64 n] x (EightSay n x)) := fun x => eight_any _ Hn.out x
  obtain ⟨R, HR⟩ : ∃ R, Hid (R = Seal.tin h e n t) := ⟨_, rfl⟩
  have HRB : Hid (Sha.Byt R) := by show Sha.Byt R; rw [HR.out]; exact Seal.tin_byt Hh.out.byt Htt.out.byt
  obtain ⟨N, HN⟩ : ∃ N, Hid (R.length = N) := ⟨_, rfl⟩
  have hN1 : N ≤ 100000 := by
    have h1 := HN.out
    rw [HR.out, Seal.tin_len] at h1
    have := Hl.out
    have := Hnh.out
    omega
  obtain ⟨A, HA1, HA2, HA3⟩ : ∃ A : Array Value, Hid (A = ((hm (Seal.k2 K) R).map (Value.int .u8)).toArray) ∧ Hid (A.size = 32) ∧ Hid (A.all (·.oneCell') = true) :=
    ⟨_, rfl, by show _ = _; simp [hm_len], all_oneCell_toArray (bytes_one _)⟩
  have HRR : Hid (((Seal.be8 (nh : Nat) ++ h ++ Seal.be8 e) ++ Seal.be8 n) ++ t = R) := by show _ = _; rw [HR.out, ← Hnh.out.1]; unfold Seal.tin; simp only [List.append_assoc]
  have B0 : Hid (Below w.heap.size w (w.alloc (.cells (List.replicate 32 (Value.int .u8 0)).toArray 48))) := (Below.refl _ w).alloc (Nat.le_refl _) _
  have R0 : Hid ((w.alloc (.cells (List.replicate 32 (Value.int .u8 0)).toArray 48)).heap[w.heap.size]? = some (.cells (List.replicate 32 (Value.int .u8 0)).toArray 48 (0, 0))) := heap_alloc_new w _
  have HS0 : Hid (w.heap.size < (w.alloc (.cells (List.replicate 32 (Value.int .u8 0)).toArray 48)).heap.size) := lt_of_block R0.out
  rw [show RowSay (Seal.tg K e n h t) w = RowSay (hm (Seal.k2 K) R) w by unfold Seal.tg; rw [HR.out]]
  have hnh9 : nh ≤ 90000 := by have := Hl.out; omega
  go_enter Tryz.func65, Tryz.ntmps65
  go_upto_region 3 with (first
    | (go_at_call 85; refine (HT0.out _).mono ?_; rintro e1 w1 ⟨g1, c1, rfl, O1', hb1⟩; have B1 : Hid (Below w.heap.size w w1) := B0.out.trans (hb1.mono B0.out.size); have R1 := Lib.hid ((hb1.block _ (lt_of_block R0.out)).trans R0.out); have HS1 : Hid (w.heap.size + 1 ≤ w1.heap.size) := Nat.le_trans HS0.out hb1.size; have O1 := Lib.hid (own_base O1'.out HS0.out); clear hb1 HT0 O1')
    | (at_builtin; refine append_bts _ _ h (w.heap.size + 1) _ _ _ ph nh ch rfl rfl Hnh.out.1 (Hh.out.old B1.out) O1.out (by omega) HS1.out ?_; intro v2 w2 ho2 hg2; have O2 := Lib.hid ho2; have B2 : Hid (Below w.heap.size w w2) := B1.out.grown hg2 B1.out.size (fun q hq => by have := (O1.out.lt q hq).1; omega); have R2 := Lib.hid ((hg2.block _ (lt_of_block R1.out) (fun e => by have := (O1.out.lt _ e.symm).1; omega)).trans R1.out); have HS2 : Hid (w.heap.size + 1 ≤ w2.heap.size) := Nat.le_trans HS1.out hg2.size; clear ho2 hg2 O1)
    | (go_at_call 85; refine (HT1.out _).mono ?_; rintro e3 w3 ⟨g3, c3, rfl, O3, hb3⟩; have B3 : Hid (Below w.heap.size w w3) := B2.out.trans (hb3.mono B2.out.size); have R3 := Lib.hid ((hb3.block _ (lt_of_block R2.out)).trans R2.out); have O23 := Lib.hid (own_keepX O2.out hb3); have X3 := Lib.hid (bs_own O3.out (Seal.be8_byt e)); have HS3 : Hid (w.heap.size + 1 ≤ w3.heap.size) := Nat.le_trans HS2.out hb3.size; clear hb3 HT1 O3 O2)
    | (at_builtin; refine append_bts _ _ (Seal.be8 e) (w.heap.size + 1) _ _ _ _ 8 c3 rfl rfl (Seal.be8_len e) X3.out O23.out (by omega) HS3.out ?_; intro v4 w4 ho4 hg4; have O4 := Lib.hid ho4; have B4 : Hid (Below w.heap.size w w4) := B3.out.grown hg4 B3.out.size (fun q hq => by have := (O23.out.lt q hq).1; omega); have R4 := Lib.hid ((hg4.block _ (lt_of_block R3.out) (fun e => by have := (O23.out.lt _ e.symm).1; omega)).trans R3.out); have HS4 : Hid (w.heap.size + 1 ≤ w4.heap.size) := Nat.le_trans HS3.out hg4.size; clear ho4 hg4 O23 X3)
    | (go_at_call 85; refine (HT2.out _).mono ?_; rintro e5 w5 ⟨g5, c5, rfl, O5, hb5⟩; have B5 : Hid (Below w.heap.size w w5) := B4.out.trans (hb5.mono B4.out.size); have R5 := Lib.hid ((hb5.block _ (lt_of_block R4.out)).trans R4.out); have O45 := Lib.hid (own_keepX O4.out hb5); have X5 := Lib.hid (bs_own O5.out (Seal.be8_byt n)); have HS5 : Hid (w.heap.size + 1 ≤ w5.heap.size) := Nat.le_trans HS4.out hb5.size; clear hb5 HT2 O5 O4)
    | (at_builtin; refine append_bts _ _ (Seal.be8 n) (w.heap.size + 1) _ _ _ _ 8 c5 rfl rfl (Seal.be8_len n) X5.out O45.out (by omega) HS5.out ?_; intro v6 w6 ho6 hg6; have O6 := Lib.hid ho6; have B6 : Hid (Below w.heap.size w w6) := B5.out.grown hg6 B5.out.size (fun q hq => by have := (O45.out.lt q hq).1; omega); have R6 := Lib.hid ((hg6.block _ (lt_of_block R5.out) (fun e => by have := (O45.out.lt _ e.symm).1; omega)).trans R5.out); have HS6 : Hid (w.heap.size + 1 ≤ w6.heap.size) := Nat.le_trans HS5.out hg6.size; clear ho6 hg6 O45 X5))
  clear R0 R1 R2 R3 R4 R5 B0 B1 B2 B3 B4 B5 HS0 HS1 HS2 HS3 HS4 HS5
  refine wp_region_any (by kernel_rfl) ?_
  change wpAny _ _ _ _ _ _ _ (World.drew _)
  replace B6 : Hid (Below w.heap.size w w6.drew) := B6.out.drew
  replace R6 : Hid (w6.drew.heap[w.heap.size]? = some (.cells (List.replicate 32 (Value.int .u8 0)).toArray 48 (0, 0))) := R6.out
  replace O6 := Lib.hid (own_keepX O6.out (Below.refl _ w6).drew)
  replace HS6 : Hid (w.heap.size + 1 ≤ w6.drew.heap.size) := HS6.out
  generalize w6.drew = z at *
  obtain ⟨q, cq, hq1, hq2⟩ := rbox_key (Hg.out.keep B6.out)
  have HQ := Lib.hid hq2; clear hq2
  refine any_take_g 0 24 (.pointer (some ⟨g, 0, none⟩)) rfl (by kernel_rfl) (by kernel_rfl) (by kernel_rfl) (fun _ _ _ h => h) (by rfl) (by intro w; go_simp) ?_
  try simp only [Act.put, List.setIfInBounds_toArray, List.set_cons_zero, List.set_cons_succ]
  refine any_take_g 1 25 (.pointer (some ⟨g, 0, none⟩)) rfl (by kernel_rfl) (by kernel_rfl) (by kernel_rfl) (fun _ _ _ h => h) (by rfl) (by intro w; go_simp) ?_
  try simp only [Act.put, List.setIfInBounds_toArray, List.set_cons_zero, List.set_cons_succ]
  refine any_take_g 2 26 (.pointer (some ⟨g, 1, none⟩)) rfl (by kernel_rfl) (by kernel_rfl) (by kernel_rfl) (fun _ _ _ h => h) (by rfl) (by intro w; go_simp) ?_
  try simp only [Act.put, List.setIfInBounds_toArray, List.set_cons_zero, List.set_cons_succ]
  refine any_take_g 4 28 v6 rfl (by kernel_rfl) (by kernel_rfl) (by kernel_rfl) (fun _ _ _ h => h) (by rfl) (by intro w; go_simp) ?_
  try simp only [Act.put, List.setIfInBounds_toArray, List.set_cons_zero, List.set_cons_succ]
  refine any_take_g 5 29 (.slice pt nt ct) rfl (by kernel_rfl) (by kernel_rfl) (by kernel_rfl) (fun _ _ _ h => h) (by rfl) (by intro w; go_simp) ?_
  try simp only [Act.put, List.setIfInBounds_toArray, List.set_cons_zero, List.set_cons_succ]
  have HQ' : Hid (∀ x, z.grownBy x v6.ownBlock → Bs x (some ⟨q, 0, none⟩) cq (Seal.k2 K) ∧ x.cell? ⟨g, 1, none⟩ = some (.slice (some ⟨q, 0, none⟩) 32 cq)) := fun x hx => by
    have hlt := rbox_lt Hg.out
    have hbx : Below w.heap.size w x := B6.out.grown hx B6.out.size (fun q hq => by have := (O6.out.lt q hq).1; omega)
    obtain ⟨q', cq', hc1, hc2⟩ := rbox_key (Hg.out.keep hbx)
    have hcc := hx.cell hq1 (fun e => by have h8 : w.heap.size + 1 ≤ g := (O6.out.lt g e.symm).1; have h9 : g < w.heap.size := hlt; omega)
    rw [hc1] at hcc
    cases hcc
    exact ⟨hc2, hc1⟩
  refine any_two 3 6 (by kernel_rfl) ?_ ?_
  · refine wpOp_step rfl (fun Kc hKc => ?_)
    have hq9 := hq1
    go_simp
    refine hKc _ _ ?_
    clear hKc Kc
    try simp only [Act.put, List.setIfInBounds_toArray, List.set_cons_zero, List.set_cons_succ]
    refine any_one 6 (by kernel_rfl) ?_
    refine op_append_bts 6 (.tmp 28) (.tmp 29) t (w.heap.size + 1) v6 _ _ pt nt ct rfl rfl rfl Hnh.out.2 (Htt.out.old B6.out) O6.out (by have := Hl.out; omega) HS6.out ?_
    intro v7 w7 ho7 hg7
    rw [HRR.out] at ho7
    have B7 : Hid (Below w.heap.size w w7) := B6.out.grown hg7 B6.out.size (fun q hq => by have := (O6.out.lt q hq).1; omega)
    have R7 := Lib.hid ((hg7.block _ (lt_of_block R6.out) (fun e => by have := (O6.out.lt _ e.symm).1; omega)).trans R6.out)
    obtain ⟨p7, c7, rfl, X7', _⟩ := own_bs ho7 HRB.out
    have X7 := Lib.hid X7'
    rw [HN.out]
    have HQ7 := Lib.hid (HQ'.out w7 hg7)
    clear ho7 hg7 X7'
    try simp only [Act.put, List.setIfInBounds_toArray, List.set_cons_zero, List.set_cons_succ]
    refine any_one 7 (by kernel_rfl) ?_
    refine wpOp_step rfl (fun Kc hKc => ?_)
    go_simp
    refine (ref2_of_any (Seal.k2 K) R (some ⟨q, 0, none⟩) p7 32 N cq c7 (Seal.k2_len K) HN.out (by omega) (by omega) _ HQ7.out.1.bat X7.out.bat (Ht.out.below B7.out Ht.out.lt)).mono ?_
    rintro e8 w8 ⟨rfl, hb8⟩
    rw [← HA1.out]
    have B8 : Hid (Below w.heap.size w w8) := B7.out.trans (hb8.mono B7.out.size)
    have R8 := Lib.hid ((hb8.block _ (lt_of_block R7.out)).trans R7.out)
    clear hb8
    dsimp only
    refine hKc _ _ ?_
    clear hKc Kc
    try simp only [Act.put, List.setIfInBounds_toArray, List.set_cons_zero, List.set_cons_succ]
    refine any_one 8 (by kernel_rfl) ?_
    refine op_store 8 48 (.tmp 10) (.tmp 31) rfl w.heap.size 0 48 (List.replicate 32 (Value.int .u8 0)) A rfl rfl R8.out (row_size Tryz.sizeSum HA2) (by rw [HA2.out]; simp) HA3.out ?_
    intro w9 g9 ch9
    try simp only [Act.put, List.setIfInBounds_toArray, List.set_cons_zero, List.set_cons_succ]
    refine wpAny_done (by kernel_rfl) ?_ _
    have G9 : Hid (w9.heap[w.heap.size]? = some (.cells A 48 (0, 0))) := by
      have h := g9.out
      have e : splice (List.replicate 32 (Value.int .u8 0)) 0 A.toList = A.toList := by
        unfold splice
        rw [List.take_zero, List.nil_append, Array.length_toList, HA2.out, List.drop_of_length_le (by simp), List.append_nil]
      rw [e, Array.toArray_toList] at h
      exact h
    clear g9
    go_wp2
    refine bodyPost_ret (results_cell_row rfl _ _ w.heap.size 48 A (0, 0) _ rfl G9.out Tryz.underlying48 rfl (row_size Tryz.sizeSum HA2)) rfl ⟨?_, ch9.below B8.out (Nat.le_refl _)⟩
    rw [HA1.out]
  · refine op_append_bts 6 (.tmp 28) (.tmp 29) t (w.heap.size + 1) v6 _ _ pt nt ct rfl rfl rfl Hnh.out.2 (Htt.out.old B6.out) O6.out (by have := Hl.out; omega) HS6.out ?_
    intro v7 w7 ho7 hg7
    rw [HRR.out] at ho7
    have B7 : Hid (Below w.heap.size w w7) := B6.out.grown hg7 B6.out.size (fun q hq => by have := (O6.out.lt q hq).1; omega)
    have R7 := Lib.hid ((hg7.block _ (lt_of_block R6.out) (fun e => by have := (O6.out.lt _ e.symm).1; omega)).trans R6.out)
    obtain ⟨p7, c7, rfl, X7', _⟩ := own_bs ho7 HRB.out
    have X7 := Lib.hid X7'
    rw [HN.out]
    have HQ7 := Lib.hid (HQ'.out w7 hg7)
    clear ho7 hg7 X7'
    try simp only [Act.put, List.setIfInBounds_toArray, List.set_cons_zero, List.set_cons_succ]
    refine any_one 3 (by kernel_rfl) ?_
    refine wpOp_step rfl (fun Kc hKc => ?_)
    have hq9 := HQ7.out.2
    go_simp
    refine hKc _ _ ?_
    clear hKc Kc
    try simp only [Act.put, List.setIfInBounds_toArray, List.set_cons_zero, List.set_cons_succ]
    refine any_one 7 (by kernel_rfl) ?_
    refine wpOp_step rfl (fun Kc hKc => ?_)
    go_simp
    refine (ref2_of_any (Seal.k2 K) R (some ⟨q, 0, none⟩) p7 32 N cq c7 (Seal.k2_len K) HN.out (by omega) (by omega) _ HQ7.out.1.bat X7.out.bat (Ht.out.below B7.out Ht.out.lt)).mono ?_
    rintro e8 w8 ⟨rfl, hb8⟩
    rw [← HA1.out]
    have B8 : Hid (Below w.heap.size w w8) := B7.out.trans (hb8.mono B7.out.size)
    have R8 := Lib.hid ((hb8.block _ (lt_of_block R7.out)).trans R7.out)
    clear hb8
    dsimp only
    refine hKc _ _ ?_
    clear hKc Kc
    try simp only [Act.put, List.setIfInBounds_toArray, List.set_cons_zero, List.set_cons_succ]
    refine any_one 8 (by kernel_rfl) ?_
    refine op_store 8 48 (.tmp 10) (.tmp 31) rfl w.heap.size 0 48 (List.replicate 32 (Value.int .u8 0)) A rfl rfl R8.out (row_size Tryz.sizeSum HA2) (by rw [HA2.out]; simp) HA3.out ?_
    intro w9 g9 ch9
    try simp only [Act.put, List.setIfInBounds_toArray, List.set_cons_zero, List.set_cons_succ]
    refine wpAny_done (by kernel_rfl) ?_ _
    have G9 : Hid (w9.heap[w.heap.size]? = some (.cells A 48 (0, 0))) := by
      have h := g9.out
      have e : splice (List.replicate 32 (Value.int .u8 0)) 0 A.toList = A.toList := by
        unfold splice
        rw [List.take_zero, List.nil_append, Array.length_toList, HA2.out, List.drop_of_length_le (by simp), List.append_nil]
      rw [e, Array.toArray_toList] at h
      exact h
    clear g9
    go_wp2
    refine bodyPost_ret (results_cell_row rfl _ _ w.heap.size 48 A (0, 0) _ rfl G9.out Tryz.underlying48 rfl (row_size Tryz.sizeSum HA2)) rfl ⟨?_, ch9.below B8.out (Nat.le_refl _)⟩
    rw [HA1.out]
end

/-! SeV: The reference's Seal and Open. -/
section
open Go.RowKit

theorem rbox_ciph {B : Nat} {w : World} {g : Nat} {K : List Int} (h : RBox B w g K) : ∃ d, w.cell? ⟨g, 0, none⟩ = some (.pointer (some ⟨d, 0, none⟩)) ∧ RCiphB B w d (4 * (4 + 7)) (Aes.up (Aes.rb (Aes.kyl (Seal.k1 K) 4)) (16 * (4 + 7))) := by
  obtain ⟨d, q, cq, h0, h1, h2, h3, h4, h5, h6⟩ := h
  exact ⟨d, by rw [cell_of_row w g 0 _ _ _ h4]; rfl, h6⟩
theorem refxor_any (K L : List Int) (B d : Nat) (e n : Int) (p : Option Addr) (k c : Nat) (hk : L.length = k) (hL : k ≤ 8192) (w : World) (hp : BAt w p L) (hc : RCiphB B w d (4 * (4 + 7)) (Aes.up (Aes.rb (Aes.kyl (Seal.k1 K) 4)) (16 * (4 + 7)))) :
    Calls Tryz.prog 64 #[.pointer (some ⟨d, 0, none⟩), .int .i64 e, .int .i64 n, .slice p k c] w fun r w' => ∃ q cq, r = .returned (.slice q k cq) ∧ Hid (XorGot L (Seal.ct K e n L) w q cq w') := by
  subst hk
  unfold Seal.ct Seal.ks
  exact rxor_key (Seal.k1 K) (k1_byt K) 4 (by omega) (Seal.k1_len K) B d e n L p c hL w hp hc

theorem bs_grown {z x : World} {g c : Nat} {T : List Int} {O : Obj} (h : Bs z (some ⟨g, 0, none⟩) c T) (_hT : T.length = 32) (hg : (z.alloc O).grownBy x (some z.heap.size)) : Bs x (some ⟨g, 0, none⟩) c T := by
  refine ⟨⟨h.bat.1, fun h0 => ?_⟩, h.cap, fun e => by cases e⟩
  obtain ⟨ab, ao, h1, h2⟩ := h.bat.2 h0
  cases h1
  refine ⟨g, 0, rfl, fun j hj => ?_⟩
  have hc := h2 j hj
  have hlt : g < z.heap.size := World.block_lt_of_cell? z _ hc
  have hc2 : (z.alloc O).cell? ⟨g, 0 + j, none⟩ = some (.int .u8 (T.getD j 0)) := (World.cell?_of_block (heap_alloc_old _ _ hlt)).trans hc
  exact hg.cell hc2 (fun e => by have e2 : g = z.heap.size := Option.some.inj e; omega)

set_option maxHeartbeats 2000000 in
set_option maxRecDepth 100000 in
theorem refseal_any (K h L : List Int) (B g : Nat) (e n : Int) (ph pl : Option Addr) (nh nl ch cl : Nat) (hnh : h.length = nh) (hnl : L.length = nl)
    (w : World) (hg : RBox B w g K) (hh : Bs w ph ch h) (hl : Bs w pl cl L) (hs : nh ≤ 4096 ∧ nl ≤ 4096) (ht : Tab w 1) :
    Calls Tryz.prog 44 #[.pointer (some ⟨g, 0, none⟩), .int .i64 e, .int .i64 n, .slice ph nh ch, .slice pl nl cl] w (OwnSay (Seal.sl K e n h L) w) := by
  have HRI : Hid (∀ x, Calls Tryz.prog 63 #[.int .i64 e, .int .i64 n] x fun r x' => r = .returned (.bool (inR e && inR n)) ∧ x = x') := fun x => (seal_right e n x).mono fun _ _ q => ⟨q.1, q.2.symm⟩
  cases hin : (inR e && inR n) with
  | false =>
    rw [Seal.sl_bad hin]
    rw [hin] at HRI
    go_enter Tryz.func44, Tryz.ntmps44
    go_wp2_with (go_at_call 63; refine (HRI.out _).mono ?_; rintro e1 w1 ⟨rfl, rfl⟩)
    go_ret
    exact ⟨none, 0, 0, rfl, rfl, (by unfold U8s; exact World.ownsRow_nil _ _ _ _), bs_none _, Below.refl _ _⟩
  | true =>
    rw [hin] at HRI
    simp only [Bool.and_eq_true] at hin
    obtain ⟨he, hn⟩ := hin
    obtain ⟨d, hd0, hdc⟩ := rbox_ciph hg
    have Ht := Lib.hid ht; clear ht
    have HG := Lib.hid hg; clear hg
    have HDC := Lib.hid hdc; clear hdc
    have Hh := Lib.hid hh; clear hh
    have Hl := Lib.hid hl; clear hl
    have Hs := Lib.hid hs; clear hs
    have Hnn := Lib.hid (And.intro hnh hnl); clear hnh hnl
    have he2 : 0 ≤ e ∧ e ≤ 1099511627776 := by unfold inR at he; simpa using he
    have hn2 : 0 ≤ n ∧ n ≤ 1099511627776 := by unfold inR at hn; simpa using hn
    obtain ⟨X, HX⟩ : ∃ X, Hid (X = Seal.ct K e n L) := ⟨_, rfl⟩
    have HXL : Hid (X.length = nl) := by show _ = _; rw [HX.out, Seal.ct_len]; exact Hnn.out.2
    have HXR : Hid (Calls Tryz.prog 64 #[.pointer (some ⟨d, 0, none⟩), .int .i64 e, .int .i64 n, .slice pl nl cl] w fun r x' => ∃ q cq, r = .returned (.slice q nl cq) ∧ Hid (XorGot L X w q cq x')) := by
      rw [HX.out]
      exact refxor_any K L B d e n pl nl cl Hnn.out.2 (by have := Hs.out; omega) w Hl.out.bat HDC.out
    obtain ⟨T, HTT⟩ : ∃ T, Hid (T = Seal.tg K e n h X) := ⟨_, rfl⟩
    have HTL : Hid (T.length = 32) := by show _ = _; rw [HTT.out, Seal.tg_len]
    have HTB : Hid (Sha.Byt T) := by show Sha.Byt T; rw [HTT.out]; exact Seal.tg_byt _ _ _ _ _
    have HXB : Hid (Sha.Byt X) := by show Sha.Byt X; rw [HX.out]; exact Seal.ct_byt _ _ _ _
    have HTG : Hid (∀ x q cq, Below w.heap.size w x → Bs x q cq X → Calls Tryz.prog 65 #[.pointer (some ⟨g, 0, none⟩), .int .i64 e, .int .i64 n, .slice ph nh ch, .slice q nl cq] x (RowSay T x)) := fun x q cq hx hq => by
      rw [HTT.out]
      exact reftag_any K h X B g e n (by omega) (by omega) ph q nh nl ch cq Hnn.out.1 HXL.out x (HG.out.keep hx) (Hh.out.old hx) hq (by have := Hs.out; omega) (Ht.out.below hx Ht.out.lt)
    have HRES : Hid (Seal.sl K e n h L = X ++ T) := by show _ = _; rw [Seal.sl_good he hn, ← HX.out, ← HTT.out]
    rw [HRES.out]
    have HRB : Hid (Sha.Byt (X ++ T)) := Sha.byt_append HXB.out HTB.out
    obtain ⟨A, HA1, HA2, HA3⟩ : ∃ A : Array Value, Hid (A = (T.map (Value.int .u8)).toArray) ∧ Hid (A.size = 32) ∧ Hid (A.all (·.oneCell') = true) :=
      ⟨_, rfl, by show _ = _; simp [HTL.out], all_oneCell_toArray (bytes_one _)⟩
    clear he hn he2 hn2
    go_enter Tryz.func44, Tryz.ntmps44
    go_upto_region 5 with (first
      | (go_at_call 63; refine (HRI.out _).mono ?_; rintro e1 w1 ⟨rfl, rfl⟩; clear HRI)
      | (go_at_call 64; refine HXR.out.mono ?_; rintro e3 w3 ⟨q3, c3, rfl, HGOT⟩; have B3 := Lib.hid HGOT.out.below; have BX3 := Lib.hid (bs_xor HGOT.out); clear HGOT HXR)
      | (go_at_call 65; refine (HTG.out _ q3 c3 B3.out BX3.out).mono ?_; rintro e4 w4 ⟨rfl, hb4⟩; rw [← HA1.out]; have B34 := Lib.hid hb4; clear hb4 HTG)
      | ((with_reducible refine row_store _ _ _ _ _ _ _ ?_ ?_ (heap_alloc_new _ _) (row_size Tryz.sizeSum HA2) ?_ HA3.out ?_); (exact rfl); (exact rfl); (rw [HA2.out]; rfl); intro w5 G5 ch5; rw [HA1.out] at G5; have B45 := Lib.hid (ch5.below ((Below.refl _ w4).alloc (Nat.le_refl _) _) (Nat.le_refl _)); have B35 : Hid (Below w3.heap.size w3 w5) := B34.out.trans (B45.out.mono B34.out.size); have BX5 := Lib.hid (BX3.out.old B35.out); have BT5 := Lib.hid (bs_row (c := 32) (bat_row G5.out HTB.out) ⟨by rw [HTL.out]; exact Nat.le_refl _, by omega⟩); have B5 : Hid (Below w.heap.size w w5) := B3.out.trans (B35.out.mono B3.out.size); clear ch5 G5))
    clear B34 B35 B45 BX3 B3
    generalize w4.heap.size = g4 at *
    refine wp_region_any (by kernel_rfl) ?_
    change wpAny _ _ _ _ _ _ _ (World.drew _)
    replace B5 : Hid (Below w.heap.size w w5.drew) := B5.out.drew
    replace BX5 := Lib.hid (BX5.out.old (Below.refl _ w5).drew)
    replace BT5 := Lib.hid (BT5.out.old (Below.refl _ w5).drew)
    generalize w5.drew = z at *
    refine any_take_g 1 32 (.slice q3 nl c3) rfl (by kernel_rfl) (by kernel_rfl) (by kernel_rfl) (fun _ _ _ h => h) (by rfl) (by intro w; go_simp) ?_
    try simp only [Act.put, List.setIfInBounds_toArray, List.set_cons_zero, List.set_cons_succ]
    refine any_take_g 3 34 (.slice (some ⟨g4, 0, none⟩) 32 32) rfl (by kernel_rfl) (by kernel_rfl) (by kernel_rfl) (fun _ _ _ h => h) (by rfl) (by intro w; go_simp) ?_
    try simp only [Act.put, List.setIfInBounds_toArray, List.set_cons_zero, List.set_cons_succ]
    refine any_one 0 (by kernel_rfl) ?_
    refine wpOp_step rfl (fun Kc hKc => ?_)
    go_simp
    refine hKc _ _ ?_
    clear hKc Kc
    try simp only [Act.put, List.setIfInBounds_toArray, List.set_cons_zero, List.set_cons_succ]
    have BE : Hid (Below z.heap.size z (z.alloc (.cells #[] 5))) := (Below.refl _ z).alloc (Nat.le_refl _) _
    have BZ := Lib.hid (B5.out.trans (BE.out.mono B5.out.size))
    have OE := Lib.hid (own_empty z w.heap.size B5.out.size)
    refine any_one 2 (by kernel_rfl) ?_
    refine op_append_bts 2 (.tmp 31) (.tmp 32) X w.heap.size _ 0 [] q3 nl c3 rfl rfl rfl HXL.out (BX5.out.old BE.out) OE.out (by have := Hs.out; omega) BZ.out.size ?_
    intro v6 w6 ho6 hg6
    rw [List.nil_append] at ho6
    have O6 := Lib.hid ho6
    have B6 : Hid (Below w.heap.size w w6) := BZ.out.grown hg6 BZ.out.size (fun q hq => (OE.out.lt q hq).1)
    have BT6 : Hid (Bs w6 (some ⟨g4, 0, none⟩) 32 T) := bs_grown BT5.out HTL.out hg6
    clear ho6 hg6
    try simp only [Act.put, List.setIfInBounds_toArray, List.set_cons_zero, List.set_cons_succ]
    refine any_one 4 (by kernel_rfl) ?_
    refine op_append_bts 4 (.tmp 33) (.tmp 34) T w.heap.size v6 _ X (some ⟨g4, 0, none⟩) 32 32 rfl rfl rfl HTL.out BT6.out O6.out (by have := Hs.out; omega) B6.out.size ?_
    intro v7 w7 ho7 hg7
    have O7 := Lib.hid ho7
    have B7 : Hid (Below w.heap.size w w7) := B6.out.grown hg7 B6.out.size (fun q hq => (O6.out.lt q hq).1)
    clear ho7 hg7
    try simp only [Act.put, List.setIfInBounds_toArray, List.set_cons_zero, List.set_cons_succ]
    refine any_take_g 5 10 v7 rfl (by kernel_rfl) (by kernel_rfl) (by kernel_rfl) (fun _ _ _ h => h) (by rfl) (by intro w; go_simp) ?_
    try simp only [Act.put, List.setIfInBounds_toArray, List.set_cons_zero, List.set_cons_succ]
    refine wpAny_done (by kernel_rfl) ?_ _
    go_wp2
    go_ret
    exact ownsay_of O7.out HRB.out B7.out

set_option maxRecDepth 100000 in
theorem refopen_bad (K h S : List Int) (e n : Int) (vg vh : Value) (pS : Option Addr) (nS cS : Nat) (hnS : S.length = nS) (hs : nS ≤ 200000) (h0 : (inR e && inR n) = false ∨ nS < 32) (w : World) :
    Calls Tryz.prog 50 #[vg, .int .i64 e, .int .i64 n, vh, .slice pS nS cS] w (OpenSay (Seal.op K e n h S) w) := by
  rw [show Seal.op K e n h S = none by
    rcases h0 with h1 | h1
    · exact Seal.op_bad h1 _ _ _
    · exact Seal.op_short _ _ _ _ _ (by omega)]
  have HRI : Hid (∀ x, Calls Tryz.prog 63 #[.int .i64 e, .int .i64 n] x fun r x' => r = .returned (.bool (inR e && inR n)) ∧ x = x') := fun x => (seal_right e n x).mono fun _ _ q => ⟨q.1, q.2.symm⟩
  have fin : OpenSay none w (.returned (.tuple #[.slice none 0 0, .bool false])) w := opensay_none (Below.refl _ _)
  have hw : IntKind.i64.wrap ((nS : Int) - 32) = (nS : Int) - 32 := IntWalk.i64_in _ ⟨by omega, by omega⟩
  cases hin : (inR e && inR n) with
  | false =>
    rw [hin] at HRI
    go_enter Tryz.func50, Tryz.ntmps50
    go_wp2_with (go_at_call 63; refine (HRI.out _).mono ?_; rintro e1 w1 ⟨rfl, rfl⟩)
    go_ret2
    exact fin
  | true =>
    rw [hin] at HRI
    have hlt : (nS : Int) - 32 < 0 := by
      rcases h0 with h1 | h1
      · rw [hin] at h1; cases h1
      · omega
    go_enter Tryz.func50, Tryz.ntmps50
    go_wp2_with (go_at_call 63; refine (HRI.out _).mono ?_; rintro e1 w1 ⟨rfl, rfl⟩)
    go_ret2
    exact fin

set_option maxHeartbeats 4000000 in
set_option maxRecDepth 100000 in
theorem refopen_good (K h S : List Int) (B g : Nat) (e n : Int) (ph : Option Addr) (ab ao nh nS ch cS k : Nat) (hnh : h.length = nh) (hnS : S.length = nS) (hk : nS = k + 32) (he : inR e = true) (hn : inR n = true)
    (w : World) (hg : RBox B w g K) (hh : Bs w ph ch h) (hS : Bs w (some ⟨ab, ao, none⟩) cS S) (hs : nh ≤ 4096 ∧ nS ≤ 4096) (ht : Tab w 1) :
    Calls Tryz.prog 50 #[.pointer (some ⟨g, 0, none⟩), .int .i64 e, .int .i64 n, .slice ph nh ch, .slice (some ⟨ab, ao, none⟩) nS cS] w (OpenSay (Seal.op K e n h S) w) := by
  have HRI : Hid (∀ x, Calls Tryz.prog 63 #[.int .i64 e, .int .i64 n] x fun r x' => r = .returned (.bool true) ∧ x = x') := fun x => by
    have h1 := seal_right e n x
    rw [he, hn] at h1
    exact h1.mono fun _ _ q => ⟨q.1, q.2.symm⟩
  obtain ⟨d, hd0, hdc⟩ := rbox_ciph hg
  have Ht := Lib.hid ht; clear ht
  have HG := Lib.hid hg; clear hg
  have HDC := Lib.hid hdc; clear hdc
  have HD0 : Hid (∀ x, Below w.heap.size w x → x.cell? ⟨g, 0, none⟩ = some (.pointer (some ⟨d, 0, none⟩))) := fun x hx => (hx.cell (World.block_lt_of_cell? w _ hd0)).trans hd0
  clear hd0
  have Hh := Lib.hid hh; clear hh
  have HSS := Lib.hid hS; clear hS
  have Hs := Lib.hid hs; clear hs
  have HnS := Lib.hid (And.intro hnh hnS); clear hnh hnS
  have he2 : 0 ≤ e ∧ e ≤ 1099511627776 := by unfold inR at he; simpa using he
  have hn2 : 0 ≤ n ∧ n ≤ 1099511627776 := by unfold inR at hn; simpa using hn
  obtain ⟨X, HX⟩ : ∃ X, Hid (X = S.take k) := ⟨_, rfl⟩
  have HXL : Hid (X.length = k) := by show _ = _; rw [HX.out, List.length_take]; have := HnS.out; omega
  obtain ⟨G, HGT⟩ : ∃ G, Hid (G = S.drop k) := ⟨_, rfl⟩
  have HGL : Hid (G.length = 32) := by show _ = _; rw [HGT.out, List.length_drop]; have := HnS.out; omega
  have HGB : Hid (Sha.Byt G) := by show Sha.Byt G; rw [HGT.out]; exact fun x hx => HSS.out.byt x (List.mem_of_mem_drop hx)
  have HBX : Hid (Bs w (some ⟨ab, ao, none⟩) cS X) := ⟨by rw [HX.out]; exact HSS.out.bat.take k, ⟨by have := HSS.out.cap; have := HXL.out; have := HnS.out; omega, HSS.out.cap.2⟩, fun h => by cases h⟩
  have HBG : Hid (BAt w (some ⟨ab, ao + k, none⟩) G) := ⟨HGB.out, fun _ => ⟨ab, ao + k, rfl, fun j hj => by
    obtain ⟨ab', ao', h1, h2⟩ := HSS.out.bat.2 (by have := HnS.out; omega)
    cases h1
    rw [HGL.out] at hj
    rw [Nat.add_assoc, h2 (k + j) (by have := HnS.out; omega), HGT.out]
    congr 2
    simp [List.getD_eq_getElem?_getD]⟩⟩
  have HXR : Hid (∀ x, Below w.heap.size w x → Calls Tryz.prog 64 #[.pointer (some ⟨d, 0, none⟩), .int .i64 e, .int .i64 n, .slice (some ⟨ab, ao, none⟩) k cS] x fun r x' => ∃ q cq, r = .returned (.slice q k cq) ∧ Hid (XorGot X (Seal.ct K e n X) x q cq x')) := fun x hx =>
    refxor_any K X B d e n (some ⟨ab, ao, none⟩) k cS HXL.out (by have := Hs.out; omega) x (HBX.out.old hx).bat (HDC.out.keep hx)
  obtain ⟨T, HTT⟩ : ∃ T, Hid (T = Seal.tg K e n h X) := ⟨_, rfl⟩
  have HTL : Hid (T.length = 32) := by show _ = _; rw [HTT.out, Seal.tg_len]
  have HTB : Hid (Sha.Byt T) := by show Sha.Byt T; rw [HTT.out]; exact Seal.tg_byt _ _ _ _ _
  have HTG : Hid (∀ x, Below w.heap.size w x → Calls Tryz.prog 65 #[.pointer (some ⟨g, 0, none⟩), .int .i64 e, .int .i64 n, .slice ph nh ch, .slice (some ⟨ab, ao, none⟩) k cS] x (RowSay T x)) := fun x hx => by
    rw [HTT.out]
    exact reftag_any K h X B g e n (by omega) (by omega) ph (some ⟨ab, ao, none⟩) nh k ch cS HnS.out.1 HXL.out x (HG.out.keep hx) (Hh.out.old hx) (HBX.out.old hx) (by have := Hs.out; omega) (Ht.out.below hx Ht.out.lt)
  have HOP : Hid (Seal.op K e n h S = if decide (T = G) then some (Seal.ct K e n X) else none) := by
    show _ = _
    unfold Seal.op
    rw [HnS.out.2, show nS - 32 = k by omega, ← HX.out, ← HGT.out, ← HTT.out, he, hn, show decide (32 ≤ nS) = true by simp; omega]
    simp [eq_comm]
  rw [HOP.out]
  obtain ⟨A, HA1, HA2, HA3⟩ : ∃ A : Array Value, Hid (A = (T.map (Value.int .u8)).toArray) ∧ Hid (A.size = 32) ∧ Hid (A.all (·.oneCell') = true) :=
    ⟨_, rfl, by show _ = _; simp [HTL.out], all_oneCell_toArray (bytes_one _)⟩
  have hcap := HSS.out.cap
  have hkk : k ≤ 4096 := by have := Hs.out; omega
  rw [HnS.out.2] at hcap
  have HSM : Hid (∀ x gt, Below w.heap.size w x → BAt x (some ⟨gt, 0, none⟩) T → Calls Tryz.prog 12 #[.slice (some ⟨gt, 0, none⟩) 32 32, .slice (some ⟨ab, ao + k, none⟩) 32 (cS - k)] x fun r x' => r = .returned (.bool (decide (T = G))) ∧ Below x.heap.size x x') := fun x gt hx hT =>
    same_gen T G _ _ 32 32 (cS - k) HTL.out HGL.out x hT (HBG.out.old hx) (by omega)
  generalize decide (T = G) = b at *
  clear he hn he2 hn2 HOP
  have hw0 : IntKind.i64.wrap ((nS : Int) - 32) = (nS : Int) - 32 := IntWalk.i64_in _ ⟨by omega, by omega⟩
  have hw1 : (nS : Int) - 32 = (k : Int) := by omega
  have hw2 : ¬ ((k : Int) < 0) := by omega
  go_enter Tryz.func50, Tryz.ntmps50
  have hkc : k ≤ cS := by omega
  have hle : (k : Int) ≤ (k : Int) + 32 := by omega
  go_upto_region 5 with (first
    | (go_at_call 63; refine (HRI.out _).mono ?_; rintro e1 w1 ⟨rfl, rfl⟩; clear HRI)
    | (go_at_call 65; refine (HTG.out _ (Below.refl _ _)).mono ?_; rintro e4 w4 ⟨rfl, hb4⟩; rw [← HA1.out]; have B4 := Lib.hid hb4; clear hb4 HTG)
    | ((with_reducible refine row_store _ _ _ _ _ _ _ ?_ ?_ (heap_alloc_new _ _) (row_size Tryz.sizeSum HA2) ?_ HA3.out ?_); (exact rfl); (exact rfl); (rw [HA2.out]; rfl); intro w5 G5 ch5; rw [HA1.out] at G5; have B5 : Hid (Below w.heap.size w w5) := ch5.below (B4.out.alloc B4.out.size _) B4.out.size; have BT5 := Lib.hid (bat_row G5.out HTB.out); clear ch5 G5))
  generalize w4.heap.size = g4 at *
  refine wp_region_any (by kernel_rfl) ?_
  change wpAny _ _ _ _ _ _ _ (World.drew _)
  replace B5 : Hid (Below w.heap.size w w5.drew) := B5.out.drew
  replace BT5 := Lib.hid (BT5.out.old (Below.refl _ w5).drew)
  generalize w5.drew = z at *
  have hnk : k + 32 - k = 32 := by omega
  have hck : ¬ (cS - k = 0) := by omega
  have hck2 : ¬ (cS = k) := by omega
  refine any_take_g 0 33 (.slice (some ⟨g4, 0, none⟩) 32 32) rfl (by kernel_rfl) (by kernel_rfl) (by kernel_rfl) (fun _ _ _ h => h) (by rfl) (by intro w; go_simp) ?_
  try simp only [Act.put, List.setIfInBounds_toArray, List.set_cons_zero, List.set_cons_succ]
  refine any_take_g 1 34 (.slice (some ⟨ab, ao, none⟩) (k + 32) cS) rfl (by kernel_rfl) (by kernel_rfl) (by kernel_rfl) (fun _ _ _ h => h) (by rfl) (by intro w; go_simp) ?_
  try simp only [Act.put, List.setIfInBounds_toArray, List.set_cons_zero, List.set_cons_succ]
  refine any_take_g 2 35 (.int .i64 (k : Int)) rfl (by kernel_rfl) (by kernel_rfl) (by kernel_rfl) (fun _ _ _ h => h) (by rfl) (by intro w; go_simp) ?_
  try simp only [Act.put, List.setIfInBounds_toArray, List.set_cons_zero, List.set_cons_succ]
  refine any_take_g 3 36 (.slice (some ⟨ab, ao + k, none⟩) 32 (cS - k)) rfl (by kernel_rfl) (by kernel_rfl) (by kernel_rfl) (fun _ _ _ h => h) (by rfl) (by intro w; go_simp) ?_
  try simp only [Act.put, List.setIfInBounds_toArray, List.set_cons_zero, List.set_cons_succ]
  refine any_one 4 (by kernel_rfl) ?_
  refine wpOp_step rfl (fun Kc hKc => ?_)
  go_simp
  refine (HSM.out _ _ B5.out BT5.out).mono ?_
  rintro e8 w8 ⟨rfl, hb8⟩
  have B8 : Hid (Below w.heap.size w w8) := B5.out.trans (hb8.mono B5.out.size)
  clear hb8
  dsimp only
  refine hKc _ _ ?_
  clear hKc Kc
  try simp only [Act.put, List.setIfInBounds_toArray, List.set_cons_zero, List.set_cons_succ]
  refine any_take_g 5 38 (.bool (!b)) rfl (by kernel_rfl) (by kernel_rfl) (by kernel_rfl) (fun _ _ _ h => h) (by rfl) (by intro w; go_simp) ?_
  try simp only [Act.put, List.setIfInBounds_toArray, List.set_cons_zero, List.set_cons_succ]
  refine wpAny_done (by kernel_rfl) ?_ _
  cases b with
  | false =>
    go_wp2
    go_ret2
    exact opensay_none B8.out
  | true =>
    go_upto_region 7 with (fail)
    refine wp_region_any (by kernel_rfl) ?_
    change wpAny _ _ _ _ _ _ _ (World.drew _)
    have BD : Hid (Below w.heap.size w w8.drew) := B8.out.drew
    generalize w8.drew = y at *
    have TD := HD0.out _ BD.out
    refine wpAny_of_held (S := fun x => x.cell? ⟨g, 0, none⟩ = some (.pointer (some ⟨d, 0, none⟩))) _ _ _ _ ?_
    refine anyH_take 0 39 (.pointer (some ⟨g, 0, none⟩)) TD rfl (by kernel_rfl) (by kernel_rfl) (by kernel_rfl) (fun _ _ _ h => h) (by rfl) (by intro x hx; go_simp; try (intro h; omega)) ?_
    try simp only [Act.put, List.setIfInBounds_toArray, List.set_cons_zero, List.set_cons_succ]
    refine anyH_take 1 40 (.pointer (some ⟨g, 0, none⟩)) TD rfl (by kernel_rfl) (by kernel_rfl) (by kernel_rfl) (fun _ _ _ h => h) (by rfl) (by intro x hx; go_simp; try (intro h; omega)) ?_
    try simp only [Act.put, List.setIfInBounds_toArray, List.set_cons_zero, List.set_cons_succ]
    refine anyH_take 2 41 (.pointer (some ⟨g, 0, none⟩)) TD rfl (by kernel_rfl) (by kernel_rfl) (by kernel_rfl) (fun _ _ _ h => h) (by rfl) (by intro x hx; go_simp; try (intro h; omega)) ?_
    try simp only [Act.put, List.setIfInBounds_toArray, List.set_cons_zero, List.set_cons_succ]
    refine anyH_take 3 42 (.pointer (some ⟨d, 0, none⟩)) TD rfl (by kernel_rfl) (by kernel_rfl) (by kernel_rfl) (fun _ _ _ h => h) (by rfl) (by intro x hx; go_simp; try (intro h; omega)) ?_
    try simp only [Act.put, List.setIfInBounds_toArray, List.set_cons_zero, List.set_cons_succ]
    refine anyH_take 4 43 (.int .i64 e) TD rfl (by kernel_rfl) (by kernel_rfl) (by kernel_rfl) (fun _ _ _ h => h) (by rfl) (by intro x hx; go_simp; try (intro h; omega)) ?_
    try simp only [Act.put, List.setIfInBounds_toArray, List.set_cons_zero, List.set_cons_succ]
    refine anyH_take 5 44 (.int .i64 n) TD rfl (by kernel_rfl) (by kernel_rfl) (by kernel_rfl) (fun _ _ _ h => h) (by rfl) (by intro x hx; go_simp; try (intro h; omega)) ?_
    try simp only [Act.put, List.setIfInBounds_toArray, List.set_cons_zero, List.set_cons_succ]
    refine anyH_take 6 45 (.slice (some ⟨ab, ao, none⟩) (k + 32) cS) TD rfl (by kernel_rfl) (by kernel_rfl) (by kernel_rfl) (fun _ _ _ h => h) (by rfl) (by intro x hx; go_simp; try (intro h; omega)) ?_
    try simp only [Act.put, List.setIfInBounds_toArray, List.set_cons_zero, List.set_cons_succ]
    refine anyH_take 7 46 (.int .i64 (k : Int)) TD rfl (by kernel_rfl) (by kernel_rfl) (by kernel_rfl) (fun _ _ _ h => h) (by rfl) (by intro x hx; go_simp; try (intro h; omega)) ?_
    try simp only [Act.put, List.setIfInBounds_toArray, List.set_cons_zero, List.set_cons_succ]
    refine anyH_take 8 47 (.slice (some ⟨ab, ao, none⟩) k cS) TD rfl (by kernel_rfl) (by kernel_rfl) (by kernel_rfl) (fun _ _ _ h => h) (by rfl) (by intro x hx; go_simp; try (intro h; omega)) ?_
    try simp only [Act.put, List.setIfInBounds_toArray, List.set_cons_zero, List.set_cons_succ]
    refine anyH_one 9 (by kernel_rfl) ?_
    refine wpOp_step rfl (fun Kc hKc => ?_)
    go_simp
    refine (HXR.out _ BD.out).mono ?_
    rintro e9 w9 ⟨q9, c9, rfl, HGOT⟩
    have TE := HD0.out _ (BD.out.trans (HGOT.out.below.mono BD.out.size))
    dsimp only
    refine hKc _ _ ⟨TE, ?_⟩
    clear hKc Kc
    try simp only [Act.put, List.setIfInBounds_toArray, List.set_cons_zero, List.set_cons_succ]
    refine anyH_take 10 10 (.slice q9 k c9) TE rfl (by kernel_rfl) (by kernel_rfl) (by kernel_rfl) (fun _ _ _ h => h) (by rfl) (by intro x hx; go_simp; try (intro h; omega)) ?_
    try simp only [Act.put, List.setIfInBounds_toArray, List.set_cons_zero, List.set_cons_succ]
    refine anyH_take 11 11 (.bool true) TE rfl (by kernel_rfl) (by kernel_rfl) (by kernel_rfl) (fun _ _ _ h => h) (by rfl) (by intro x hx; go_simp; try (intro h; omega)) ?_
    try simp only [Act.put, List.setIfInBounds_toArray, List.set_cons_zero, List.set_cons_succ]
    refine anyH_done (by kernel_rfl) ?_ _
    go_wp2
    go_ret2
    exact opensay_some HXL.out BD.out HGOT.out

theorem refopen_any (K h S : List Int) (B g : Nat) (e n : Int) (ph pS : Option Addr) (nh nS ch cS : Nat) (hnh : h.length = nh) (hnS : S.length = nS)
    (w : World) (hg : RBox B w g K) (hh : Bs w ph ch h) (hS : Bs w pS cS S) (hs : nh ≤ 4096 ∧ nS ≤ 4096) (ht : Tab w 1) :
    Calls Tryz.prog 50 #[.pointer (some ⟨g, 0, none⟩), .int .i64 e, .int .i64 n, .slice ph nh ch, .slice pS nS cS] w (OpenSay (Seal.op K e n h S) w) := by
  by_cases hl : nS < 32
  · exact refopen_bad K h S e n _ _ pS nS cS hnS (by omega) (Or.inr hl) w
  · cases h0 : (inR e && inR n) with
    | false => exact refopen_bad K h S e n _ _ pS nS cS hnS (by omega) (Or.inl h0) w
    | true =>
      simp only [Bool.and_eq_true] at h0
      obtain ⟨ab, ao, rfl, _⟩ := hS.bat.2 (by omega)
      exact refopen_good K h S B g e n ph ab ao nh nS ch cS (nS - 32) hnh hnS (by omega) h0.1 h0.2 w hg hh hS hs ht
end

/-! SeQ: The law SealSeals walked. -/
section
open Go.RowKit

theorem Boxed.only {w x : World} {g c j : Nat} {M : List Int} (h : Boxed w g c M) (ho : Only j w x) (hj : g ≠ j) : Boxed x g c M := (ho.block _ (lt_of_block h) hj).trans h
theorem BoxAt.only {w x : World} {g j : Nat} {K : List Int} {A : Array Value} {fr : Nat × Nat} (h : BoxAt w g K) (hg : w.heap[j]? = some (.cells A 5 fr)) (ho : Only j w x) : BoxAt x g K := by
  obtain ⟨c, h1, h2⟩ := h
  refine ⟨c, h1.only ho (fun e => ?_), h2.only hg ho⟩
  subst e
  unfold Boxed at h1
  rw [hg] at h1
  injection h1 with h1
  injection h1 with _ h1 _
  exact absurd h1 (by decide)
/-- Own bytes stay while others are written over. -/
theorem own_sp {w x : World} {B n : Nat} {v u : Value} {xs : List Value} (h : w.ownsRow B 5 1 v n xs) (hs : Sp u w x) (hne : ∀ g, v.ownBlock = some g → u.ownBlock ≠ some g) : x.ownsRow B 5 1 v n xs := by
  rcases hs with rfl | ⟨j, hj, ho⟩
  · exact h
  · refine ⟨h.1, ?_⟩
    rcases h.2 with h1 | ⟨g, cap, cur, h1, h2, h3, h4⟩
    · exact Or.inl h1
    · refine Or.inr ⟨g, cap, cur, h1, h2, (ho.block _ (lt_of_block h3) (fun e => ?_)).trans h3, h4⟩
      subst e
      exact hne g (by rw [h1]; rfl) hj
theorem sp_block {w x : World} {u : Value} {k : Nat} (hs : Sp u w x) (hk : k < w.heap.size) (hne : u.ownBlock ≠ some k) : x.heap[k]? = w.heap[k]? := by
  rcases hs with rfl | ⟨j, hj, ho⟩
  · rfl
  · exact ho.block _ hk (fun e => hne (by rw [hj, e]))
theorem sp_size {w x : World} {u : Value} (hs : Sp u w x) : w.heap.size ≤ x.heap.size := by
  rcases hs with rfl | ⟨j, _, ho⟩
  · exact Nat.le_refl _
  · exact ho.size
theorem lent_bs {w : World} {g : Nat} {L : List Int} (hL : L.length ≤ 100000) (h : w.heap[g]? = some (.cells ((mk5 L).map (Value.int .u8)).toArray 5 (0, 0))) (hb : Sha.Byt L) : Bs w (some ⟨g, 0, none⟩) (L.length + 5) L := by
  have h1 := bat_row h (mk5_byt hb)
  unfold mk5 at h1
  exact bs_row h1.pre ⟨by omega, by omega⟩
end
end Go.Proofs.YtkjfhbmdogmecaaGreatDoor
